// Package noting holds the rule by which a layer that begins notes itself: see shared/DOC.md, 'The start'.
package noting

import "gambit/start"

// In notes a layer in a log, 100 k + layer for each k from 1 to times, and gives how many of these notes the log took.
func In(l *start.Log, layer, times int) int {
	taken := 0
	for k := 1; k <= times; k++ {
		if l.Note(100*k+layer) < 0 {
			// A log that has refused one note is closed, full or none, and takes no later one either.
			break
		}
		taken++
	}
	return taken
}
