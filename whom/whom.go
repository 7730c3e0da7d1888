// Package whom holds the rule by which a part of a card is about a thing on the table: see shared/DOC.md, 'Standing effects'.
package whom

import (
	"gambit/api"
	"gambit/trait"
)

// Candidate is a thing on the table, as a part is held against it: by its features, not by what is printed on it.
type Candidate struct {
	api.Feature
	Unit bool // its card is a unit
	Own  bool // it is the thing that has the part
}

// Is tells whether a part that a player holds is about a thing on the table.
func Is(part api.Part, holder int, x Candidate) bool {
	if part.Whom == api.Self {
		return x.Own
	}
	return x.Unit && isUnit(part, holder, x)
}

// isUnit tells the same of a unit, where the part is about others than its own thing alone.
func isUnit(part api.Part, holder int, x Candidate) bool {
	switch part.Whom {
	case api.Yours:
		return x.Holder == holder
	case api.Rest:
		return x.Holder == holder && !x.Own
	case api.Theirs:
		return x.Holder != holder
	case api.All:
		return true
	case api.Dyed:
		return x.Suit == part.Suit
	case api.With:
		return trait.Has(x.Traits, part.Trait)
	}
	return false
}
