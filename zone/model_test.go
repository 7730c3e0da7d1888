package zone_test

import (
	"slices"
	"testing"

	"gambit/api"
	"gambit/zone"
)

// zones are what From is handed: the tests' own reckoning of zones works on them.
type zones struct {
	things []api.Thing
	decks  [2][]int
	hands  [2][]int
	stamp  int
}

const allPlaces = 5

// clone copies zones, so that one can be changed.
func (m zones) clone() zones {
	m.things = slices.Clone(m.things)
	for p := range 2 {
		m.decks[p], m.hands[p] = slices.Clone(m.decks[p]), slices.Clone(m.hands[p])
	}
	return m
}

// made are zones out of these, which must be sound.
func (m zones) made(t *testing.T) *zone.Zones {
	t.Helper()
	z, e := zone.From(m.things, m.decks, m.hands, m.stamp)
	if e != api.OK || z == nil {
		t.Fatalf("From(%+v) = %v, %v", m, z, e)
	}
	return z
}

// told are the zones that z tells, copied, so that they stay as they are even if an answer were no new memory.
func told(z *zone.Zones) zones {
	return zones{z.Things(), [2][]int{z.Deck(0), z.Deck(1)}, [2][]int{z.Hand(0), z.Hand(1)}, z.Stamp()}.clone()
}

func (m zones) equal(o zones) bool {
	return slices.Equal(m.things, o.things) && m.stamp == o.stamp &&
		slices.Equal(m.decks[0], o.decks[0]) && slices.Equal(m.decks[1], o.decks[1]) &&
		slices.Equal(m.hands[0], o.hands[0]) && slices.Equal(m.hands[1], o.hands[1])
}

// in are the numbers of an owner's things in a place; of any owner's, if owner is -1. The order of stamps is found by looking for the next greater one.
func (m zones) in(owner int, place api.Place) []int {
	var list []int
	for i, x := range m.things {
		if x.Place == place && (owner == -1 || x.Owner == owner) {
			list = append(list, i+1)
		}
	}
	switch {
	case place == api.Deck && owner >= 0:
		return m.decks[owner]
	case place == api.Hand && owner >= 0:
		return m.hands[owner]
	case place != api.Table:
		return list
	}
	var sorted []int
	for ahead := 0; len(sorted) < len(list); {
		next := 0
		for _, n := range list {
			if s := m.things[n-1].Stamp; s > ahead && (next == 0 || s < m.things[next-1].Stamp) {
				next = n
			}
		}
		ahead = m.things[next-1].Stamp
		sorted = append(sorted, next)
	}
	return sorted
}

// wantTold holds all that zones tell against m.
func wantTold(t *testing.T, z *zone.Zones, m zones) {
	t.Helper()
	if got := told(z); !got.equal(m) {
		t.Fatalf("the zones tell\n%+v, want\n%+v", got, m)
	}
	if z.Len() != len(m.things) {
		t.Errorf("Len() = %d, want %d", z.Len(), len(m.things))
	}
	if got := z.Table(); !slices.Equal(got, m.in(-1, api.Table)) {
		t.Errorf("Table() = %v, want %v", got, m.in(-1, api.Table))
	}
	for p := range 2 {
		for place := api.Deck; place <= api.Grave; place++ {
			if got := z.In(p, place); !slices.Equal(got, m.in(p, place)) {
				t.Errorf("In(%d, %d) = %v, want %v", p, place, got, m.in(p, place))
			}
		}
	}
	for i, x := range m.things {
		if got, e := z.Thing(i + 1); got != x || e != api.OK {
			t.Errorf("Thing(%d) = %+v, %v, want %+v", i+1, got, e, x)
		}
	}
}

// sound tells whether zones are sound, sentence by sentence of the chapter.
func (m zones) sound() bool {
	if len(m.things) > 2048 || m.stamp < 1 || m.stamp > 1<<40 {
		return false
	}
	stamps := map[int]int{}
	owns := map[int]int{}
	for i, x := range m.things {
		if x.Card < 1 || x.Owner < 0 || x.Owner > 1 || x.Place < 1 || x.Place > 5 {
			return false
		}
		for p := range 2 {
			inDeck, inHand := 0, 0
			if p == x.Owner && x.Place == api.Deck {
				inDeck = 1
			}
			if p == x.Owner && x.Place == api.Hand {
				inHand = 1
			}
			if times(m.decks[p], i+1) != inDeck || times(m.hands[p], i+1) != inHand {
				return false
			}
		}
		if x.Place == api.Table {
			stamps[x.Stamp]++
			owns[x.Owner]++
			if x.Stamp < 1 || x.Stamp >= m.stamp || stamps[x.Stamp] > 1 || x.Hurt < 0 || x.Done < 0 || slices.Min(x.Marks[:]) < 0 || slices.Max(x.Marks[:]) > 99 {
				return false
			}
		} else if x.Stamp != 0 || x.Hurt != 0 || x.Marks != [4]int{} || x.Done != 0 || x.Fresh {
			return false
		}
	}
	for p := range 2 {
		for _, n := range slices.Concat(m.decks[p], m.hands[p]) {
			if n < 1 || n > len(m.things) {
				return false
			}
		}
		if len(m.hands[p]) > 10 || owns[p] > 8 {
			return false
		}
	}
	return true
}

func times(l []int, n int) int {
	count := 0
	for _, x := range l {
		if x == n {
			count++
		}
	}
	return count
}

// drop takes a number out of a list.
func drop(l []int, n int) []int {
	var rest []int
	for _, x := range l {
		if x != n {
			rest = append(rest, x)
		}
	}
	return rest
}

// comes lets a thing come to a place, sentence by sentence of the chapter.
func (m *zones) comes(n int, to api.Place) {
	for p := range 2 {
		m.decks[p], m.hands[p] = drop(m.decks[p], n), drop(m.hands[p], n)
	}
	x := &m.things[n-1]
	x.Stamp, x.Hurt, x.Marks, x.Done, x.Fresh = 0, 0, [4]int{}, 0, false
	x.Place = to
	switch to {
	case api.Deck:
		m.decks[x.Owner] = append(m.decks[x.Owner], n)
	case api.Hand:
		m.hands[x.Owner] = append(m.hands[x.Owner], n)
	case api.Table:
		x.Stamp, x.Fresh = m.stamp, true
		m.stamp++
	}
}

func (m *zones) move(n int, to api.Place) api.Errno {
	if n < 1 || n > len(m.things) {
		return api.ErrMissing
	}
	if to < 1 || to > 5 {
		return api.ErrArg
	}
	x := m.things[n-1]
	if to == api.Hand && x.Place != api.Hand && len(m.hands[x.Owner]) == 10 {
		return api.ErrFull
	}
	if to == api.Table && x.Place != api.Table && len(m.in(x.Owner, api.Table)) == 8 {
		return api.ErrFull
	}
	if to == api.Table && m.stamp == 1<<40 {
		return api.ErrFull
	}
	m.comes(n, to)
	return api.OK
}

func (m *zones) make(card, owner int) (int, api.Errno) {
	if card < 1 || owner < 0 || owner > 1 {
		return 0, api.ErrArg
	}
	if len(m.things) == 2048 || len(m.in(owner, api.Table)) == 8 || m.stamp == 1<<40 {
		return 0, api.ErrFull
	}
	m.things = append(m.things, api.Thing{Card: card, Owner: owner})
	m.comes(len(m.things), api.Table)
	return len(m.things), api.OK
}

func (m *zones) write(n int, x api.Thing) api.Errno {
	if n < 1 || n > len(m.things) {
		return api.ErrMissing
	}
	was := m.things[n-1]
	if was.Place != api.Table || x.Card != was.Card || x.Owner != was.Owner || x.Place != was.Place || x.Stamp != was.Stamp {
		return api.ErrArg
	}
	if x.Hurt < 0 || x.Done < 0 || slices.Min(x.Marks[:]) < 0 || slices.Max(x.Marks[:]) > 99 {
		return api.ErrArg
	}
	m.things[n-1] = x
	return api.OK
}

func (m *zones) arrange(owner int, l []int) api.Errno {
	if owner < 0 || owner > 1 || len(l) != len(m.decks[owner]) {
		return api.ErrArg
	}
	for _, n := range m.decks[owner] {
		if times(l, n) != 1 {
			return api.ErrArg
		}
	}
	m.decks[owner] = slices.Clone(l)
	return api.OK
}

// upTo are the numbers from 1 to count.
func upTo(count int) []int {
	var list []int
	for n := range count {
		list = append(list, n+1)
	}
	return list
}

// sample are sound zones with things of both players in each place, in which the order of stamps is not that of numbers.
func sample() zones {
	var m zones
	m.stamp = 20
	for n := 1; n <= 20; n++ {
		x := api.Thing{Card: 30 + n, Owner: n % 2, Place: api.Place(1 + n/2%allPlaces)}
		if x.Place == api.Table {
			x.Stamp, x.Hurt, x.Done = 18-n/2-n%2*3, n, 1
			x.Marks = [4]int{0, n, 99, 1}
			x.Fresh = n%4 == 0
		}
		m.things = append(m.things, x)
	}
	for n := 20; n >= 1; n-- {
		switch x := m.things[n-1]; x.Place {
		case api.Deck:
			m.decks[x.Owner] = append(m.decks[x.Owner], n)
		case api.Hand:
			m.hands[x.Owner] = append(m.hands[x.Owner], n)
		}
	}
	return m
}

// deep are zones with the same things, and eight more of each player in its deck.
func deep() zones {
	m := sample()
	for n := 21; n <= 36; n++ {
		m.things = append(m.things, api.Thing{Card: n, Owner: n % 2, Place: api.Deck})
		m.decks[n%2] = append(m.decks[n%2], n)
	}
	return m
}

func TestSamplesAreSound(t *testing.T) {
	for _, m := range []zones{sample(), deep(), {stamp: 1}} {
		if !m.sound() {
			t.Errorf("%+v is not sound", m)
		}
	}
	m := sample()
	for p := range 2 {
		for place := api.Deck; place <= api.Grave; place++ {
			if len(m.in(p, place)) != 2 {
				t.Errorf("the player %d has %v in the place %d", p, m.in(p, place), place)
			}
		}
	}
	if slices.IsSorted(m.in(-1, api.Table)) {
		t.Errorf("the table is %v, by stamp and by number alike", m.in(-1, api.Table))
	}
}
