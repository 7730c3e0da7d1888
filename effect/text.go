package effect

import (
	"slices"
	"strconv"
	"strings"

	"gambit/api"
	"gambit/suit"
	"gambit/trait"
)

const (
	// between stands between each two words of a part's text.
	between = " "
	// heads is how many words each text has at least: those of When, Verb and Whom.
	heads = 3
)

// whenWords has the words of When at their numbers; at 0 stands none.
func whenWords() []string {
	return []string{
		api.Played: "played",
		api.Broken: "broken",
		api.Begun:  "begun",
		api.Struck: "struck",
		api.Always: "always",
		api.Rather: "rather",
	}
}

// verbWords has the words of Verb at their numbers; at 0 stands none.
func verbWords() []string {
	return []string{
		api.Harm:    "harm",
		api.Mend:    "mend",
		api.Draw:    "draw",
		api.Drop:    "drop",
		api.Gain:    "gain",
		api.Break:   "break",
		api.Call:    "call",
		api.Back:    "back",
		api.Put:     "put",
		api.Seize:   "seize",
		api.Dye:     "dye",
		api.Grant:   "grant",
		api.Strip:   "strip",
		api.Base:    "base",
		api.Raise:   "raise",
		api.Less:    "less",
		api.Twice:   "twice",
		api.Turned:  "turned",
		api.Instead: "instead",
	}
}

// whomWords has the words of Whom at their numbers; at 0 stands none.
func whomWords() []string {
	return []string{
		api.You:    "you",
		api.Foe:    "foe",
		api.It:     "it",
		api.Self:   "self",
		api.Yours:  "yours",
		api.Theirs: "theirs",
		api.All:    "all",
		api.Rest:   "rest",
		api.Dyed:   "dyed",
		api.With:   "with",
	}
}

// setters has at each word what that word sets in a part that is read.
type setters map[string]func(*api.Part)

// settersOf makes the setters of a table of words, out of a function that sets the number at which a word stands.
func settersOf(words []string, set func(p *api.Part, number int)) setters {
	made := setters{}
	for number := 1; number < len(words); number++ {
		made[words[number]] = func(p *api.Part) { set(p, number) }
	}
	return made
}

// headSetters makes the setters of each of a text's first words, in their order.
func headSetters() [heads]setters {
	return [heads]setters{
		settersOf(whenWords(), func(p *api.Part, number int) { p.When = api.When(number) }),
		settersOf(verbWords(), func(p *api.Part, number int) { p.Verb = api.Verb(number) }),
		settersOf(whomWords(), func(p *api.Part, number int) { p.Whom = api.Whom(number) }),
	}
}

// field is a field of a part that has a word behind the first ones, if it is used.
type field struct {
	used bool
	tell func(api.Part) string
	read func(p *api.Part, word string) bool
}

// fieldsOf makes the fields that a verb and a whom use, in the order of their words.
func fieldsOf(v api.Verb, w api.Whom) []field {
	ofCount, ofSuit, ofTrait, ofMark, ofName := Uses(v, w)
	all := []field{
		{ofCount, func(p api.Part) string { return strconv.Itoa(p.Count) }, readCount},
		{ofSuit, func(p api.Part) string { return suit.Name(p.Suit) }, readSuit},
		{ofTrait, func(p api.Part) string { return trait.Name(p.Trait) }, readTrait},
		{ofMark, func(p api.Part) string { return strconv.Itoa(int(p.Mark)) }, readMark},
		{ofName, func(p api.Part) string { return p.Name }, readName},
	}
	return slices.DeleteFunc(all, func(f field) bool { return !f.used })
}

func readCount(p *api.Part, word string) bool {
	number, err := strconv.Atoi(word)
	p.Count = number
	return err == nil
}

func readSuit(p *api.Part, word string) (ok bool) {
	p.Suit, ok = suit.Of(word)
	return ok
}

func readTrait(p *api.Part, word string) (ok bool) {
	p.Trait, ok = trait.Of(word)
	return ok
}

func readMark(p *api.Part, word string) bool {
	number, err := strconv.ParseUint(word, 10, 8)
	p.Mark = api.Mark(number)
	return err == nil
}

func readName(p *api.Part, word string) bool {
	p.Name = strings.Clone(word) // a piece would keep the text that was handed in
	return true
}

// Print tells a part's text.
func Print(p api.Part) (string, api.Errno) {
	if refused := Check(p); refused != api.OK {
		return "", refused
	}
	words := []string{whenWords()[p.When], verbWords()[p.Verb], whomWords()[p.Whom]}
	for _, f := range fieldsOf(p.Verb, p.Whom) {
		words = append(words, f.tell(p))
	}
	return strings.Join(words, between), api.OK
}

// Parse reads a part's text.
func Parse(s string) (api.Part, api.Errno) {
	if len(s) > api.MaxEffect {
		return api.Part{}, api.ErrLong
	}
	p, ok := read(strings.Split(s, between))
	if !ok {
		return api.Part{}, api.ErrEffect
	}
	// Words may be read of which no part that may be is made, and numbers in forms that are not told.
	if text, refused := Print(p); refused != api.OK || text != s {
		return api.Part{}, api.ErrEffect
	}
	return p, api.OK
}

// read takes words for those of a part, and tells whether each of them can be.
func read(words []string) (api.Part, bool) {
	var p api.Part
	if len(words) < heads {
		return p, false
	}
	for place, has := range headSetters() {
		set, ok := has[words[place]]
		if !ok {
			return p, false
		}
		set(&p)
	}
	return readFields(p, words[heads:])
}

// readFields takes words for those of the fields that a part with this verb and this whom uses.
func readFields(p api.Part, words []string) (api.Part, bool) {
	fields := fieldsOf(p.Verb, p.Whom)
	if len(words) != len(fields) {
		return p, false
	}
	for place, f := range fields {
		if !f.read(&p, words[place]) {
			return p, false
		}
	}
	return p, true
}
