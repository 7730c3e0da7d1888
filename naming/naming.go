// Package naming holds the rule of what a name is: see shared/DOC.md, 'Words'.
package naming

import "gambit/api"

// Is tells whether a text is a name.
func Is(text string) bool {
	if len(text) == 0 || len(text) > api.MaxName || !isLetter(text[0]) {
		return false
	}
	for i := range len(text) {
		if !isLetter(text[i]) && text[i] != '-' {
			return false
		}
	}
	return true
}

func isLetter(b byte) bool { return b >= 'a' && b <= 'z' }
