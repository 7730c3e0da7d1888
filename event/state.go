package event

import (
	"slices"

	"gambit/api"
	"gambit/book"
	"gambit/thing"
	"gambit/zone"
)

// The bounds of a state that api does not name.
const (
	far      = 1_000_000_000 // Hurt, Nothing and Stamp go up to it, Life goes down as far
	mostDone = 2
	ofDraw   = 2 // the greatest Winner
)

// sound tells the zones of a state: false, if the state may not be.
func sound(b *book.Book, s api.State) (*zone.Zones, bool) {
	if !b.Sealed() || !numbersFit(s) {
		return nil, false
	}
	zones, refused := zone.From(s.Things, s.Decks, s.Hands, s.Stamp)
	if refused != api.OK || !thingsFit(b, s.Things) || !stackFits(b, s) {
		return nil, false
	}
	return zones, true
}

// numbersFit tells whether all of a state that is no list is within its bounds.
func numbersFit(s api.State) bool {
	for who := range s.Life {
		if !within(s.Life[who], -far, api.MaxLife) || !within(s.Mana[who], 0, api.MaxMana) ||
			!within(s.Most[who], 0, api.MaxMana) || !within(s.Nothing[who], 0, far) {
			return false
		}
	}
	return isWho(s.Turn) && isWho(s.Word) && within(s.Passes, 0, 1) &&
		(s.Phase == api.Main || s.Phase == api.Fight) &&
		within(s.Stamp, 1, far) && within(s.Actions, 0, api.MaxActions) &&
		within(s.Winner, 0, ofDraw) && (s.Over || s.Winner == 0)
}

// thingsFit tells whether the things of sound zones may be in a state of a book: zones know neither cards nor these bounds.
func thingsFit(b *book.Book, things []api.Thing) bool {
	for _, x := range things {
		c, refused := thing.Card(b, x)
		isSpellThere := x.Place == api.Table && c.Kind == api.Spell
		if refused != api.OK || isSpellThere || x.Hurt > far || x.Done > mostDone {
			return false
		}
	}
	return true
}

// stackFits tells whether a state's stack may be, its things being such as may be.
func stackFits(b *book.Book, s api.State) bool {
	if len(s.Stack) > api.MaxStack {
		return false
	}
	var played []int
	for _, i := range s.Stack {
		switch {
		case !mayStand(b, s.Things, i):
			return false
		case i.Part > 0:
			continue
		}
		x := s.Things[i.Thing-1]
		if x.Place != api.Stacked || i.Holder != x.Owner || slices.Contains(played, i.Thing) {
			return false
		}
		played = append(played, i.Thing)
	}
	// Each of them is Stacked and stands there once: with as many of both none is left out.
	return len(played) == stacked(s.Things)
}

// stacked tells how many things are Stacked.
func stacked(things []api.Thing) int {
	count := 0
	for _, x := range things {
		if x.Place == api.Stacked {
			count++
		}
	}
	return count
}

// mayStand tells whether an item may stand on the stack, whatever else stands there.
func mayStand(b *book.Book, things []api.Thing, i api.Item) bool {
	if !within(i.Thing, 1, len(things)) || !isWho(i.Holder) || !within(i.Meant, -2, len(things)) {
		return false
	}
	c, _ := thing.Card(b, things[i.Thing-1]) // no error: its number is a card's
	return within(i.Part, 0, len(c.Parts))
}

// within tells whether a number is from low to high.
func within(number, low, high int) bool { return number >= low && number <= high }

// isWho tells whether a number is 0 or 1.
func isWho(who int) bool { return within(who, 0, 1) }
