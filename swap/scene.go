package swap

import (
	"cmp"
	"slices"

	"gambit/api"
	"gambit/book"
	"gambit/layer"
	"gambit/thing"
	"gambit/trait"
	"gambit/whom"
)

// anyLayer is one of the layers of standing effects: what does not go together is refused whichever is asked for.
const anyLayer = 1

// scene is a book, things and features that go together, and the swaps that stand there.
type scene struct {
	b      *book.Book
	things []api.Thing
	fs     []api.Feature
	list   []api.Standing
}

// look tells the scene of a book, things and features, or why they do not go together.
func look(b *book.Book, things []api.Thing, fs []api.Feature) (scene, api.Errno) {
	if _, refused := layer.Effects(b, things, fs, anyLayer); refused != api.OK {
		return scene{}, refused
	}
	sc := scene{b: b, things: things, fs: fs}
	for _, n := range sc.table() {
		if !trait.Has(fs[n-1].Traits, api.Mute) {
			sc.list = append(sc.list, sc.swapsOf(n)...)
		}
	}
	return sc, api.OK
}

// lookAt tells the scene in which an event may be, or why it may not.
func lookAt(b *book.Book, things []api.Thing, fs []api.Feature, h api.Happening) (scene, api.Errno) {
	sc, refused := look(b, things, fs)
	switch {
	case refused != api.OK:
		return scene{}, refused
	case !sc.mayBe(h):
		return scene{}, api.ErrArg
	}
	return sc, api.OK
}

// table tells the numbers of the things on the table, by rising stamp.
func (sc scene) table() []int {
	var numbers []int
	for i, x := range sc.things {
		if x.Place == api.Table {
			numbers = append(numbers, i+1)
		}
	}
	slices.SortFunc(numbers, func(a, b int) int {
		return cmp.Compare(sc.things[a-1].Stamp, sc.things[b-1].Stamp)
	})
	return numbers
}

// swapsOf tells the swaps of the thing n, by their places, Mute or not.
func (sc scene) swapsOf(n int) []api.Standing {
	x := sc.things[n-1]
	c, _ := thing.Card(sc.b, x) // no error, here and below: its number is a card's
	places, _ := thing.Parts(sc.b, x, api.Rather)
	var list []api.Standing
	for _, place := range places {
		list = append(list, api.Standing{Thing: n, Place: place, What: c.Parts[place]})
	}
	return list
}

// mayBe tells whether an event may be.
func (sc scene) mayBe(h api.Happening) bool {
	switch h.Verb {
	case api.Harm:
		return (isPlayer(h.On) || sc.onTable(h.On)) && h.Count >= -api.MaxHarm && h.Count <= api.MaxHarm
	case api.Break:
		return sc.onTable(h.On)
	case api.Draw:
		return isPlayer(h.On)
	}
	return false
}

// onTable tells whether n is the number of a thing on the table.
func (sc scene) onTable(n int) bool {
	return n >= 1 && n <= len(sc.things) && sc.things[n-1].Place == api.Table
}

// isPlayer tells whether a number is a player's.
func isPlayer(n int) bool { return n == number(0) || n == number(1) }

// number tells a player's number.
func number(who int) int { return -1 - who }

// foe tells the other player.
func foe(who int) int { return 1 - who }

// holder tells who holds a swap's thing.
func (sc scene) holder(s api.Standing) int { return sc.fs[s.Thing-1].Holder }

// shields tells how many Shield marks lie on the thing n.
func (sc scene) shields(n int) int { return sc.things[n-1].Marks[api.Shield-1] }

// isShielded tells whether n, a player's or a thing's number, is that of a unit on which a Shield mark lies.
func (sc scene) isShielded(n int) bool {
	return !isPlayer(n) && thing.Unit(sc.b, sc.things[n-1]) && sc.shields(n) > 0
}

// swaps tells whether a swap of the list swaps an event.
func (sc scene) swaps(s api.Standing, h api.Happening) bool {
	return sc.isAbout(s, h.On) && sc.fits(s.What, h)
}

// isAbout tells whether a swap is about n, a player's or a thing's number.
func (sc scene) isAbout(s api.Standing, n int) bool {
	holder := sc.holder(s)
	switch {
	case s.What.Whom == api.You:
		return n == number(holder)
	case s.What.Whom == api.Foe:
		return n == number(foe(holder))
	case isPlayer(n):
		return false
	}
	x := whom.Candidate{Feature: sc.fs[n-1], Unit: thing.Unit(sc.b, sc.things[n-1]), Own: n == s.Thing}
	return whom.Is(s.What, holder, x)
}

// fits tells whether a part swaps an event, which is of one that the part is about.
func (sc scene) fits(what api.Part, h api.Happening) bool {
	switch {
	case what.Verb != api.Instead:
		return h.Verb == api.Harm
	case what.Whom == api.You || what.Whom == api.Foe:
		return h.Verb == api.Draw
	}
	return h.Verb == api.Break && sc.shields(h.On) >= what.Count
}
