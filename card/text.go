package card

import (
	"strconv"
	"strings"

	"gambit/api"
	"gambit/effect"
	"gambit/suit"
	"gambit/trait"
)

const (
	// between stands between each two words of a card's text.
	between = " "
	// ahead stands ahead of each part.
	ahead = "|"
	// aheadOfPart is that word with the blanks around it.
	aheadOfPart = between + ahead + between
	// heads is how many words each text has at least: those of Name, Suit, Kind and Cost.
	heads = 4
	// amid stands between a unit's Power and its Health.
	amid = "/"
	// isToken is the word of a card that is a token.
	isToken = "token"
	// noKind is the word of a number that is no kind.
	noKind = ""
	// plus stands ahead of a trait's name.
	plus = "+"
)

// kindWord tells a kind's word.
func kindWord(k api.Kind) string {
	switch k {
	case api.Unit:
		return "unit"
	case api.Spell:
		return "spell"
	case api.Relic:
		return "relic"
	}
	return noKind
}

// kindOf tells the kind of a word: 0 of a word that is none's.
func kindOf(word string) api.Kind {
	switch word {
	case "unit":
		return api.Unit
	case "spell":
		return api.Spell
	case "relic":
		return api.Relic
	}
	return 0
}

// Print tells a card's text.
func Print(c api.Card) (string, api.Errno) {
	if refused := Check(c); refused != api.OK {
		return "", refused
	}
	words := tellHead(c)
	for _, p := range c.Parts {
		text, _ := effect.Print(p) // Check took the part
		words = append(words, ahead, text)
	}
	return strings.Join(words, between), api.OK
}

// tellHead tells the words of a card's text that stand ahead of its parts.
func tellHead(c api.Card) []string {
	words := []string{c.Name, suit.Name(c.Suit), kindWord(c.Kind), strconv.Itoa(c.Cost)}
	if c.Kind == api.Unit {
		words = append(words, strconv.Itoa(c.Power)+amid+strconv.Itoa(c.Health))
	}
	if c.Token {
		words = append(words, isToken)
	}
	for _, t := range trait.List(c.Traits) {
		words = append(words, plus+trait.Name(t))
	}
	return words
}

// Parse reads a card's text.
func Parse(s string) (api.Card, api.Errno) {
	if len(s) > api.MaxCardText {
		return api.Card{}, api.ErrLong
	}
	c, ok := read(s)
	if !ok {
		return api.Card{}, api.ErrCardText
	}
	// Words may be read of which no card that may be is made, or in an order and in forms that are not told.
	if text, refused := Print(c); refused != api.OK || text != s {
		return api.Card{}, api.ErrCardText
	}
	return c, api.OK
}

// read takes a text for a card's, and tells whether each of its words can be.
func read(s string) (api.Card, bool) {
	head, rest, more := strings.Cut(s, aheadOfPart)
	c, ok := readHead(strings.Split(head, between))
	for ok && more {
		var text string
		text, rest, more = strings.Cut(rest, aheadOfPart)
		p, refused := effect.Parse(text)
		c.Parts = append(c.Parts, p)
		ok = refused == api.OK
	}
	return c, ok
}

// readHead takes words for those of a card that stand ahead of its parts.
func readHead(words []string) (api.Card, bool) {
	if len(words) < heads {
		return api.Card{}, false
	}
	ofSuit, suitOK := suit.Of(words[1])
	cost, costOK := readNumber(words[3])
	c := api.Card{
		Name: strings.Clone(words[0]), // a piece would keep the text that was handed in
		Suit: ofSuit,
		Kind: kindOf(words[2]),
		Cost: cost,
	}
	ok := suitOK && costOK
	for _, word := range words[heads:] {
		ok = ok && readFurther(&c, word)
	}
	return c, ok
}

// readFurther takes a word for one of those behind the first ones, of which a card may have some or none: each is known by its form.
func readFurther(c *api.Card, word string) bool {
	if word == isToken {
		c.Token = true
		return true
	}
	if name, found := strings.CutPrefix(word, plus); found {
		return readTrait(c, name)
	}
	return readForce(c, word)
}

func readTrait(c *api.Card, name string) bool {
	t, ok := trait.Of(name)
	c.Traits = trait.With(c.Traits, t)
	return ok
}

// readForce takes a word for that of a unit's Power and Health.
func readForce(c *api.Card, word string) bool {
	power, health, _ := strings.Cut(word, amid) // if there is nothing to cut at, no bytes are left for Health
	var powerOK, healthOK bool
	c.Power, powerOK = readNumber(power)
	c.Health, healthOK = readNumber(health)
	return powerOK && healthOK
}

func readNumber(word string) (int, bool) {
	number, err := strconv.Atoi(word)
	return number, err == nil
}
