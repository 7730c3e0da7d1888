package zone

import (
	"slices"

	"gambit/api"
)

// From: zones as they are handed in.
func From(things []api.Thing, decks, hands [2][]int, stamp int) (*Zones, api.Errno) {
	if len(things) > api.MaxThings || areLong(decks) || areLong(hands) {
		return nil, api.ErrLong
	}
	z := &Zones{things: own(things), decks: ownBoth(decks), hands: ownBoth(hands), stamp: stamp}
	if !z.areSound() {
		return nil, api.ErrArg
	}
	return z, api.OK
}

// areLong tells whether one of both lists is longer than any list of things can be.
func areLong(lists [2][]int) bool {
	return len(lists[0]) > api.MaxThings || len(lists[1]) > api.MaxThings
}

// ownBoth copies both players' lists.
func ownBoth(lists [2][]int) [2][]int { return [2][]int{own(lists[0]), own(lists[1])} }

// areSound tells whether zones of no more than MaxThings things are sound.
func (z *Zones) areSound() bool {
	if z.stamp < 1 || z.stamp > api.MaxStamp {
		return false
	}
	for _, t := range z.things {
		if !z.mayBe(t) {
			return false
		}
	}
	return z.stampsDiffer() && z.isSoundOf(0) && z.isSoundOf(1)
}

// mayBe tells whether a thing may be, whatever the others are.
func (z *Zones) mayBe(t api.Thing) bool {
	if t.Card < 1 || !isOwner(t.Owner) || !isPlace(t.Place) {
		return false
	}
	if t.Place != api.Table {
		return t == atHome(t, t.Place)
	}
	return t.Stamp >= 1 && t.Stamp < z.stamp && mayLie(t)
}

// stampsDiffer tells whether no two things on the table have one stamp.
func (z *Zones) stampsDiffer() bool {
	table := z.byStamp(z.onTable())
	for i := 1; i < len(table); i++ {
		if z.things[table[i]-1].Stamp == z.things[table[i-1]-1].Stamp {
			return false
		}
	}
	return true
}

// isSoundOf tells whether an owner's deck and hand are what the things say, and neither its hand nor its part of the table is too full.
func (z *Zones) isSoundOf(owner int) bool {
	return z.holdsJust(z.decks[owner], owner, api.Deck) &&
		z.holdsJust(z.hands[owner], owner, api.Hand) &&
		len(z.hands[owner]) <= api.MaxHand &&
		len(z.numbers(owner, api.Table)) <= api.MaxTable
}

// holdsJust tells whether a list has each of an owner's things in a place once, in whatever order, and nothing else.
func (z *Zones) holdsJust(l []int, owner int, place api.Place) bool {
	rising := z.numbers(owner, place)
	if len(l) != len(rising) { // ahead of the copy: a list that was handed in may be very long
		return false
	}
	list := own(l)
	slices.Sort(list)
	return slices.Equal(list, rising)
}

// atHome tells a thing as it is off the table.
func atHome(t api.Thing, place api.Place) api.Thing {
	return api.Thing{Card: t.Card, Owner: t.Owner, Place: place}
}

// keepsItsPlace tells whether a thing could become another one without anything else being changed by that.
func keepsItsPlace(t, other api.Thing) bool {
	return t.Card == other.Card && t.Owner == other.Owner && t.Place == other.Place && t.Stamp == other.Stamp
}

// mayLie tells whether a thing may lie on the table with the numbers that change there.
func mayLie(t api.Thing) bool {
	for _, count := range t.Marks {
		if count < 0 || count > api.MaxMarks {
			return false
		}
	}
	return t.Hurt >= 0 && t.Done >= 0
}

// isOwner tells whether a number is a player's.
func isOwner(owner int) bool { return owner == 0 || owner == 1 }

// isPlace tells whether there is such a place.
func isPlace(p api.Place) bool { return p >= api.Deck && p <= api.Grave }

// areCards tells whether all numbers may be cards'.
func areCards(l []int) bool {
	for _, card := range l {
		if card < 1 {
			return false
		}
	}
	return true
}
