package zone_test

import (
	"math"
	"slices"
	"testing"

	"gambit/api"
	"gambit/zone"
)

// P17.2

// wantFrom holds From against the tests' own reckoning of what is sound.
func wantFrom(t *testing.T, what string, m zones, want api.Errno) {
	t.Helper()
	if m.sound() != (want == api.OK) {
		t.Fatalf("%s: sound is %v", what, m.sound())
	}
	z, e := zone.From(m.things, m.decks, m.hands, m.stamp)
	if e != want || (z != nil) != (want == api.OK) {
		t.Errorf("%s: From = %v, %v, want %v", what, z, e, want)
	}
	if e == api.OK && z != nil {
		wantTold(t, z, m)
	}
}

// changed are zones in which one thing is changed.
func changed(m zones, change func(m *zones)) zones {
	m = m.clone()
	change(&m)
	return m
}

func TestFromOfSoundZones(t *testing.T) {
	wantFrom(t, "no things", zones{stamp: 1}, api.OK)
	wantFrom(t, "empty lists", zones{[]api.Thing{}, [2][]int{{}, {}}, [2][]int{{}, {}}, 1}, api.OK)
	wantFrom(t, "the sample", sample(), api.OK)
	wantFrom(t, "the deep one", deep(), api.OK)
	for place := api.Deck; place <= api.Grave; place++ {
		for owner := range 2 {
			m := zones{things: []api.Thing{{Card: 1, Owner: owner}}, stamp: 1}
			m.comes(1, place)
			wantFrom(t, "one thing", m, api.OK)
		}
	}
}

// on and off are the numbers of the sample's things on the table and off it.
func on() []int { return sample().in(-1, api.Table) }

func off() []int {
	m := sample()
	return slices.Concat(m.in(-1, api.Deck), m.in(-1, api.Hand), m.in(-1, api.Stacked), m.in(-1, api.Grave))
}

func TestFromOfOneThingThatMayNotBe(t *testing.T) {
	for _, n := range slices.Concat(on(), off()) {
		one := func(change func(x *api.Thing)) zones {
			return changed(sample(), func(m *zones) { change(&m.things[n-1]) })
		}
		for _, card := range []int{0, -1, math.MinInt} {
			wantFrom(t, "a card below 1", one(func(x *api.Thing) { x.Card = card }), api.ErrArg)
		}
		for _, card := range []int{1, 65, math.MaxInt} {
			wantFrom(t, "a card from 1 on", one(func(x *api.Thing) { x.Card = card }), api.OK)
		}
		for _, owner := range []int{-1, 2, math.MinInt, math.MaxInt} {
			wantFrom(t, "no owner", one(func(x *api.Thing) { x.Owner = owner }), api.ErrArg)
		}
		for _, place := range []api.Place{0, 6, 255} {
			wantFrom(t, "no place", one(func(x *api.Thing) { x.Place = place }), api.ErrArg)
		}
	}
}

// Of things in a deck or a hand the lists would lack or have too much; of these there are none.
func TestFromOfNoOwnerOrPlaceWithoutLists(t *testing.T) {
	for _, place := range []api.Place{api.Stacked, api.Table, api.Grave} {
		m := zones{things: []api.Thing{{Card: 1, Place: place}}, stamp: 2}
		if place == api.Table {
			m.things[0].Stamp = 1
		}
		wantFrom(t, "one thing", m, api.OK)
		for _, owner := range []int{-1, 2, math.MaxInt} {
			wantFrom(t, "no owner", changed(m, func(m *zones) { m.things[0].Owner = owner }), api.ErrArg)
		}
		for _, none := range []api.Place{0, 6, 255} {
			wantFrom(t, "no place", changed(m, func(m *zones) { m.things[0].Place = none }), api.ErrArg)
		}
	}
}

func TestFromOfThingsThatAreNotAtHome(t *testing.T) {
	for _, n := range off() {
		one := func(change func(x *api.Thing)) zones {
			return changed(sample(), func(m *zones) { change(&m.things[n-1]) })
		}
		for _, number := range []int{-1, 1, 19, math.MaxInt} {
			wantFrom(t, "a stamp", one(func(x *api.Thing) { x.Stamp = number }), api.ErrArg)
			wantFrom(t, "hurt", one(func(x *api.Thing) { x.Hurt = number }), api.ErrArg)
			wantFrom(t, "done", one(func(x *api.Thing) { x.Done = number }), api.ErrArg)
			for mark := range 4 {
				wantFrom(t, "marks", one(func(x *api.Thing) { x.Marks[mark] = number }), api.ErrArg)
			}
		}
		wantFrom(t, "fresh", one(func(x *api.Thing) { x.Fresh = true }), api.ErrArg)
	}
}

func TestFromOfThingsOnTheTable(t *testing.T) {
	for i, n := range on() {
		one := func(change func(x *api.Thing)) zones {
			return changed(sample(), func(m *zones) { change(&m.things[n-1]) })
		}
		for _, stamp := range []int{0, -1, math.MinInt, 20, 21, math.MaxInt} {
			wantFrom(t, "no stamp", one(func(x *api.Thing) { x.Stamp = stamp }), api.ErrArg)
		}
		for _, stamp := range []int{1, 19} {
			wantFrom(t, "a stamp", one(func(x *api.Thing) { x.Stamp = stamp }), api.OK)
		}
		for _, other := range on()[i+1:] {
			wantFrom(t, "another one's stamp", one(func(x *api.Thing) { x.Stamp = sample().things[other-1].Stamp }), api.ErrArg)
		}
		for _, below := range []int{-1, math.MinInt} {
			wantFrom(t, "hurt", one(func(x *api.Thing) { x.Hurt = below }), api.ErrArg)
			wantFrom(t, "done", one(func(x *api.Thing) { x.Done = below }), api.ErrArg)
		}
		for _, number := range []int{0, 1, math.MaxInt} {
			wantFrom(t, "hurt", one(func(x *api.Thing) { x.Hurt = number }), api.OK)
			wantFrom(t, "done", one(func(x *api.Thing) { x.Done = number }), api.OK)
		}
		for mark := range 4 {
			for _, number := range []int{-1, 100, math.MinInt, math.MaxInt} {
				wantFrom(t, "marks", one(func(x *api.Thing) { x.Marks[mark] = number }), api.ErrArg)
			}
			for _, number := range []int{0, 1, 99} {
				wantFrom(t, "marks", one(func(x *api.Thing) { x.Marks[mark] = number }), api.OK)
			}
		}
		for _, fresh := range []bool{false, true} {
			wantFrom(t, "fresh", one(func(x *api.Thing) { x.Fresh = fresh }), api.OK)
		}
	}
}

func TestFromOfStamps(t *testing.T) {
	for _, stamp := range []int{0, -1, math.MinInt, 1<<40 + 1, math.MaxInt} {
		wantFrom(t, "no next stamp", zones{stamp: stamp}, api.ErrArg)
		wantFrom(t, "no next stamp", changed(sample(), func(m *zones) { m.stamp = stamp }), api.ErrArg)
	}
	for _, stamp := range []int{20, 21, 1<<40 - 1, 1 << 40} {
		wantFrom(t, "a next stamp", zones{stamp: stamp}, api.OK)
		wantFrom(t, "a next stamp", changed(sample(), func(m *zones) { m.stamp = stamp }), api.OK)
	}
	high := changed(sample(), func(m *zones) { m.stamp, m.things[on()[0]-1].Stamp = 1<<40, 1<<40-1 })
	wantFrom(t, "the greatest stamp", high, api.OK)
	wantFrom(t, "the next one's", changed(high, func(m *zones) { m.things[on()[0]-1].Stamp = 1 << 40 }), api.ErrArg)
}

// lists goes over all four lists of zones.
func lists(m *zones) []*[]int {
	return []*[]int{&m.decks[0], &m.decks[1], &m.hands[0], &m.hands[1]}
}

func TestFromOfListsThatLackOrHaveTooMuch(t *testing.T) {
	for which := range 4 {
		change := func(what string, want api.Errno, edit func(l []int) []int) {
			wantFrom(t, what, changed(deep(), func(m *zones) {
				l := lists(m)[which]
				*l = edit(*l)
			}), want)
		}
		change("another order", api.OK, func(l []int) []int { slices.Reverse(l); return l })
		change("none", api.ErrArg, func(l []int) []int { return nil })
		for i, n := range *lists(new(deep()))[which] {
			change("one less", api.ErrArg, func(l []int) []int { return drop(l, n) })
			change("one twice", api.ErrArg, func(l []int) []int { return append(l, n) })
			for _, no := range []int{0, -1, 37, math.MinInt, math.MaxInt} {
				change("no thing", api.ErrArg, func(l []int) []int { l[i] = no; return l })
				change("one that is no thing's more", api.ErrArg, func(l []int) []int { return slices.Insert(l, i, no) })
			}
			for other := 1; other <= 36; other++ {
				want := api.ErrArg
				if other == n {
					want = api.OK
				}
				change("another one", want, func(l []int) []int { l[i] = other; return l })
				change("one more", api.ErrArg, func(l []int) []int { return slices.Insert(l, i, other) })
			}
		}
	}
}

func TestFromOfListsExchanged(t *testing.T) {
	for a := range 4 {
		for b := range a {
			wantFrom(t, "two lists exchanged", changed(deep(), func(m *zones) {
				l := lists(m)
				*l[a], *l[b] = *l[b], *l[a]
			}), api.ErrArg)
			wantFrom(t, "a thing in another list", changed(deep(), func(m *zones) {
				l := lists(m)
				*l[a], *l[b] = append(*l[a], (*l[b])[0]), (*l[b])[1:]
			}), api.ErrArg)
		}
	}
}

// crowd are zones with so many of one owner's things in a place.
func crowd(count, owner int, place api.Place) zones {
	m := zones{stamp: 1}
	for n := 1; n <= count; n++ {
		m.things = append(m.things, api.Thing{Card: n, Owner: owner})
		m.comes(n, place)
	}
	return m
}

func TestFromOfCrowds(t *testing.T) {
	for owner := range 2 {
		wantFrom(t, "ten in a hand", crowd(10, owner, api.Hand), api.OK)
		wantFrom(t, "eleven in a hand", crowd(11, owner, api.Hand), api.ErrArg)
		wantFrom(t, "eight on the table", crowd(8, owner, api.Table), api.OK)
		wantFrom(t, "nine on the table", crowd(9, owner, api.Table), api.ErrArg)
		for _, place := range []api.Place{api.Deck, api.Stacked, api.Grave} {
			wantFrom(t, "2,048 elsewhere", crowd(2048, owner, place), api.OK)
			wantFrom(t, "2,049 elsewhere", crowd(2049, owner, place), api.ErrLong)
		}
	}
	both := crowd(20, 0, api.Hand)
	both.hands = [2][]int{}
	for n := 1; n <= 20; n++ {
		both.things[n-1].Owner = n % 2
		both.hands[n%2] = append(both.hands[n%2], n)
	}
	wantFrom(t, "ten in each hand", both, api.OK)
	both = crowd(16, 0, api.Table)
	for n := range both.things {
		both.things[n].Owner = n % 2
	}
	wantFrom(t, "eight of each on the table", both, api.OK)
}

func TestFromOfLongLists(t *testing.T) {
	for which := range 4 {
		for _, m := range []zones{sample(), {stamp: 1}, {stamp: 0}, {things: []api.Thing{{}}}} {
			long := changed(m, func(m *zones) { *lists(m)[which] = upTo(2049) })
			wantFrom(t, "a list of 2,049", long, api.ErrLong)
			least := changed(m, func(m *zones) { *lists(m)[which] = upTo(2048) })
			wantFrom(t, "a list of 2,048", least, api.ErrArg)
		}
	}
	for _, count := range []int{2049, 5000} {
		wantFrom(t, "many things, none of which may be", zones{things: make([]api.Thing, count)}, api.ErrLong)
	}
	wantFrom(t, "2,048 things, none of which may be", zones{things: make([]api.Thing, 2048), stamp: 1}, api.ErrArg)
}

// All zones of two things over few values: each condition beside each other one.
func TestFromOfAllSmall(t *testing.T) {
	var things []api.Thing
	for place := api.Place(0); place <= 6; place++ {
		for owner := range 3 {
			for stamp := range 4 {
				things = append(things, api.Thing{Card: 1, Owner: owner, Place: place, Stamp: stamp, Hurt: stamp / 3})
			}
		}
	}
	some := [][]int{nil, {1}, {2}, {1, 2}, {2, 1}, {1, 1}}
	sound := 0
	for i, one := range things {
		for j, two := range things {
			m := zones{things: []api.Thing{one, two}, stamp: 3}
			a, b := (i+j)%len(some), (i*5+j/3)%len(some)
			for p := range 4 {
				*lists(&m)[p] = some[a]
				*lists(&m)[(p+1)%4] = some[b]
				if a == 0 { // a list of what should be there
					m.decks, m.hands = listed(m.things)
				}
				want := api.ErrArg
				if m.sound() {
					want = api.OK
					sound++
				}
				wantFrom(t, "two things", m, want)
				m.decks, m.hands = [2][]int{}, [2][]int{}
			}
		}
	}
	if sound < 100 {
		t.Errorf("only %d are sound", sound)
	}
}

// listed are the decks and hands that things want.
func listed(things []api.Thing) (decks, hands [2][]int) {
	for i, x := range things {
		switch {
		case x.Owner > 1:
		case x.Place == api.Deck:
			decks[x.Owner] = append(decks[x.Owner], i+1)
		case x.Place == api.Hand:
			hands[x.Owner] = append(hands[x.Owner], i+1)
		}
	}
	return decks, hands
}
