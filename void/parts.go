package void

import "gambit/api"

// part makes a part of the fields that all parts are told by; count is 0 where the verb uses none.
func part(when api.When, verb api.Verb, whom api.Whom, count int) api.Part {
	return api.Part{When: when, Verb: verb, Whom: whom, Count: count}
}

// ofSuit makes a part that uses a suit, too.
func ofSuit(p api.Part, s api.Suit) api.Part {
	p.Suit = s
	return p
}

// ofTrait makes a part that uses a trait, too.
func ofTrait(p api.Part, t api.Trait) api.Part {
	p.Trait = t
	return p
}

// ofMark makes a part that uses a mark, too.
func ofMark(p api.Part, m api.Mark) api.Part {
	p.Mark = m
	return p
}

// ofName makes a part that uses a card's name, too.
func ofName(p api.Part, name string) api.Part {
	p.Name = name
	return p
}
