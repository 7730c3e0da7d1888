package zone_test

import (
	"slices"
	"testing"

	"gambit/api"
	"gambit/pile"
	"gambit/zone"
)

// P17.8

// chance tells numbers out of pile's generator.
type chance struct{ state uint64 }

// from tells a number from low to high.
func (c *chance) from(low, high int) int {
	var number uint64
	number, c.state = pile.Next(c.state)
	return low + int(number%uint64(high-low+1))
}

// thing is one that may be written, with now and then one fault.
func (c *chance) thing(m zones, n int) api.Thing {
	x := api.Thing{Card: 1, Place: api.Table, Stamp: 1}
	if n >= 1 && n <= len(m.things) {
		x = m.things[n-1]
	}
	x.Hurt, x.Done, x.Fresh = c.from(0, 9), c.from(0, 2), c.from(0, 1) == 0
	x.Marks[c.from(0, 3)] = c.from(0, 99)
	switch c.from(0, 20) {
	case 0:
		x.Hurt = -1
	case 1:
		x.Done = -1
	case 2:
		x.Marks[c.from(0, 3)] = 100
	case 3:
		x.Stamp++
	case 4:
		x.Card++
	case 5:
		x.Owner = 1 - x.Owner
	case 6:
		x.Place = api.Place(c.from(0, 6))
	}
	return x
}

// list is a deck in another order, with now and then one fault.
func (c *chance) list(m zones, owner int) []int {
	if owner < 0 || owner > 1 {
		return nil
	}
	var l []int
	l, c.state = pile.Shuffle(m.decks[owner], c.state)
	if c.from(0, 3) == 0 && len(l) > 0 {
		l[c.from(0, len(l)-1)] = c.from(0, len(m.things)+1)
	}
	return l
}

// call makes some call of z and of m, and holds both answers against each other.
func (c *chance) call(t *testing.T, z *zone.Zones, m *zones) api.Errno {
	t.Helper()
	n, owner := c.from(-1, len(m.things)+1), c.from(0, 1)
	if c.from(0, 19) == 0 {
		owner = c.from(-1, 2)
	}
	var got, want api.Errno
	switch kind := c.from(0, 9); {
	case kind < 6:
		to := api.Place(c.from(1, 5))
		if c.from(0, 19) == 0 {
			to = api.Place(c.from(0, 6))
		}
		got, want = z.Move(n, to), m.move(n, to)
	case kind == 6:
		card := c.from(-1, 40)
		made, e := z.Make(card, owner)
		should, refused := m.make(card, owner)
		if made != should {
			t.Fatalf("Make(%d, %d) = %d, want %d", card, owner, made, should)
		}
		got, want = e, refused
	case kind == 7:
		l := c.list(*m, owner)
		got, want = z.Arrange(owner, l), m.arrange(owner, l)
	default:
		x := c.thing(*m, n)
		got, want = z.Write(n, x), m.write(n, x)
	}
	if got != want {
		t.Fatalf("a call answers %v, want %v", got, want)
	}
	return got
}

// wantSound holds against zones that they are sound, and that From of what they tell tells the same.
func wantSound(t *testing.T, z *zone.Zones) {
	t.Helper()
	m := told(z)
	if !m.sound() {
		t.Fatalf("%+v is not sound", m)
	}
	again, e := zone.From(m.things, m.decks, m.hands, m.stamp)
	if e != api.OK {
		t.Fatalf("From of what zones tell, %+v, = %v", m, e)
	}
	wantTold(t, again, m)
}

func TestBehindWhateverCalls(t *testing.T) {
	begins := []zones{{stamp: 1}, sample(), deep(), crowd(30, 0, api.Deck), crowd(10, 1, api.Hand), crowd(8, 0, api.Table), beside(8, 1, api.Table, 1<<40-20)}
	answers := map[api.Errno]int{}
	for i, m := range begins {
		for try := range 20 {
			now := m.clone()
			z := m.made(t)
			c := chance{uint64(100*i + try)}
			for range 150 {
				before := told(z)
				e := c.call(t, z, &now)
				answers[e]++
				wantTold(t, z, now)
				wantSound(t, z)
				if e != api.OK && !told(z).equal(before) {
					t.Fatalf("a call that answers %v has changed %+v", e, before)
				}
			}
		}
	}
	for _, e := range []api.Errno{api.OK, api.ErrMissing, api.ErrArg, api.ErrFull} {
		if answers[e] < 200 {
			t.Errorf("%v is answered only %d times", e, answers[e])
		}
	}
}

// A way back: from what zones tell, at any time, calls go on as on the zones themselves.
func TestFromGoesOnAlike(t *testing.T) {
	m := deep()
	z := m.made(t)
	c := chance{7}
	for range 200 {
		c.call(t, z, &m)
		z = told(z).made(t)
	}
	wantTold(t, z, m)
}

func TestZonesKnowNothingOfEachOther(t *testing.T) {
	m := deep()
	one, two := m.made(t), m.made(t)
	three := told(one).made(t)
	now := m.clone()
	c := chance{3}
	for range 300 {
		c.call(t, one, &now)
	}
	wantTold(t, one, now)
	wantTold(t, two, m)
	wantTold(t, three, m)
	cards := []int{1, 2, 3}
	a, _ := zone.New(cards, cards)
	b, _ := zone.New(cards, cards)
	before := told(b)
	a.Move(1, api.Table)
	a.Move(5, api.Hand)
	a.Arrange(0, []int{3, 2})
	a.Make(9, 0)
	if !told(b).equal(before) || slices.Equal(a.Deck(0), b.Deck(0)) {
		t.Errorf("%+v, want %+v", told(b), before)
	}
}
