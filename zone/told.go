package zone

import (
	"cmp"
	"slices"

	"gambit/api"
)

// Thing: a thing.
func (z *Zones) Thing(n int) (api.Thing, api.Errno) {
	switch {
	case !z.areMade():
		return api.Thing{}, api.ErrNil
	case !z.has(n):
		return api.Thing{}, api.ErrMissing
	}
	return z.things[n-1], api.OK
}

// Things: all.
func (z *Zones) Things() []api.Thing {
	if !z.areMade() {
		return nil
	}
	return own(z.things)
}

// Deck: an owner's.
func (z *Zones) Deck(owner int) []int { return z.In(owner, api.Deck) }

// Hand: an owner's.
func (z *Zones) Hand(owner int) []int { return z.In(owner, api.Hand) }

// Table: what lies there, by stamp.
func (z *Zones) Table() []int {
	if !z.areMade() {
		return nil
	}
	return z.byStamp(z.onTable())
}

// In: an owner's things in a place.
func (z *Zones) In(owner int, place api.Place) []int {
	if !z.areMade() || !isOwner(owner) {
		return nil
	}
	switch place {
	case api.Deck:
		return own(z.decks[owner])
	case api.Hand:
		return own(z.hands[owner])
	case api.Table:
		return z.byStamp(z.numbers(owner, place))
	}
	return z.numbers(owner, place)
}

// Len: how many things there are.
func (z *Zones) Len() int {
	if !z.areMade() {
		return 0
	}
	return len(z.things)
}

// Stamp: the next one.
func (z *Zones) Stamp() int {
	if !z.areMade() {
		return 0
	}
	return z.stamp
}

// numbers are those of an owner's things that have a place, rising: in a new list.
func (z *Zones) numbers(owner int, place api.Place) []int {
	var list []int
	for i, t := range z.things {
		if t.Owner == owner && t.Place == place {
			list = append(list, i+1)
		}
	}
	return list
}

// onTable are the numbers of both owners' things on the table: in a new list.
func (z *Zones) onTable() []int {
	return append(z.numbers(0, api.Table), z.numbers(1, api.Table)...)
}

// byStamp lays a list of numbers of things in the order of their stamps: the list itself, which nobody else has.
func (z *Zones) byStamp(l []int) []int {
	slices.SortFunc(l, func(a, b int) int {
		return cmp.Compare(z.things[a-1].Stamp, z.things[b-1].Stamp)
	})
	return l
}
