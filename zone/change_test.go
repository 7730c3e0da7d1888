package zone_test

import (
	"math"
	"slices"
	"testing"

	"gambit/api"
	"gambit/zone"
)

// P17.4

func wantMake(t *testing.T, z *zone.Zones, m *zones, card, owner int) {
	t.Helper()
	want, refused := m.make(card, owner)
	if n, e := z.Make(card, owner); n != want || e != refused {
		t.Fatalf("Make(%d, %d) = %d, %v, want %d, %v", card, owner, n, e, want, refused)
	}
	wantTold(t, z, *m)
}

func wantNoMake(t *testing.T, z *zone.Zones, m zones, card, owner int, want api.Errno) {
	t.Helper()
	n, e := z.Make(card, owner)
	if n != 0 {
		t.Errorf("Make(%d, %d) = %d beside %v", card, owner, n, e)
	}
	wantRefused(t, "Make", z, m, e, want)
}

func TestMake(t *testing.T) {
	for _, m := range []zones{{stamp: 1}, sample(), deep(), crowd(2046, 0, api.Grave)} {
		z := m.made(t)
		wantMake(t, z, &m, 1, 0)
		wantMake(t, z, &m, math.MaxInt, 1)
		x, _ := z.Thing(z.Len())
		if x != (api.Thing{Card: math.MaxInt, Owner: 1, Place: api.Table, Stamp: m.stamp - 1, Fresh: true}) {
			t.Errorf("the new thing is %+v", x)
		}
	}
}

func TestMakeOfWrongNumbers(t *testing.T) {
	full := crowd(8, 0, api.Table)
	last := zones{stamp: 1 << 40}
	for _, m := range []zones{{stamp: 1}, sample(), full, last, crowd(2048, 0, api.Grave)} {
		z := m.made(t)
		for _, card := range []int{0, -1, math.MinInt} {
			for owner := -1; owner <= 2; owner++ {
				wantNoMake(t, z, m, card, owner, api.ErrArg)
			}
		}
		for _, owner := range []int{-1, 2, math.MinInt, math.MaxInt} {
			wantNoMake(t, z, m, 1, owner, api.ErrArg)
		}
	}
}

func TestMakeWhereThereIsNoRoom(t *testing.T) {
	for owner := range 2 {
		m := crowd(7, owner, api.Table)
		z := m.made(t)
		wantMake(t, z, &m, 1, owner)
		wantNoMake(t, z, m, 1, owner, api.ErrFull)
		wantMake(t, z, &m, 1, 1-owner)
		for n := 1; n <= 8; n++ {
			wantMove(t, z, &m, n, api.Grave)
			wantMake(t, z, &m, 1, owner)
			wantNoMake(t, z, m, 1, owner, api.ErrFull)
		}

		m = crowd(2047, owner, api.Grave)
		z = m.made(t)
		wantMake(t, z, &m, 3, owner)
		wantNoMake(t, z, m, 3, owner, api.ErrFull)
		wantNoMake(t, z, m, 3, 1-owner, api.ErrFull)

		m = zones{stamp: 1<<40 - 1}
		z = m.made(t)
		wantMake(t, z, &m, 3, owner)
		wantNoMake(t, z, m, 3, owner, api.ErrFull)
		wantNoMake(t, z, m, 3, 1-owner, api.ErrFull)
	}
}

// P17.5

func wantWrite(t *testing.T, z *zone.Zones, m *zones, n int, x api.Thing, want api.Errno) {
	t.Helper()
	if e := m.write(n, x); e != want {
		t.Fatalf("the tests' own answer to Write(%d, %+v) is %v, not %v", n, x, e, want)
	}
	wantRefused(t, "Write", z, *m, z.Write(n, x), want)
}

func TestWrite(t *testing.T) {
	m := sample()
	z := m.made(t)
	for _, n := range on() {
		was := m.things[n-1]
		wantWrite(t, z, &m, n, was, api.OK)
		for _, number := range []int{0, 1, 99, 9999, math.MaxInt} {
			x := was
			x.Hurt = number
			wantWrite(t, z, &m, n, x, api.OK)
			x = was
			x.Done = number
			wantWrite(t, z, &m, n, x, api.OK)
		}
		for mark := range 4 {
			for _, number := range []int{0, 1, 98, 99} {
				x := was
				x.Marks[mark] = number
				wantWrite(t, z, &m, n, x, api.OK)
			}
		}
		for _, fresh := range []bool{true, false} {
			x := was
			x.Fresh = fresh
			wantWrite(t, z, &m, n, x, api.OK)
		}
		x := was
		x.Hurt, x.Done, x.Fresh, x.Marks = 7, 3, !was.Fresh, [4]int{4, 3, 2, 1}
		wantWrite(t, z, &m, n, x, api.OK)
	}
}

func TestWriteRefused(t *testing.T) {
	m := sample()
	z := m.made(t)
	for _, n := range on() {
		was := m.things[n-1]
		wrong := func(change func(x *api.Thing)) {
			t.Helper()
			x := was
			change(&x)
			wantWrite(t, z, &m, n, x, api.ErrArg)
		}
		wrong(func(x *api.Thing) { *x = api.Thing{} })
		wrong(func(x *api.Thing) { x.Card++ })
		wrong(func(x *api.Thing) { x.Card = 0 })
		wrong(func(x *api.Thing) { x.Owner = 1 - x.Owner })
		wrong(func(x *api.Thing) { x.Owner = 2 })
		for _, place := range []api.Place{0, 1, 2, 3, 5, 6, 255} {
			wrong(func(x *api.Thing) { x.Place = place })
		}
		for _, stamp := range []int{0, -1, was.Stamp - 1, was.Stamp + 1, 19, 20} {
			wrong(func(x *api.Thing) { x.Stamp = stamp })
		}
		for _, number := range []int{-1, math.MinInt} {
			wrong(func(x *api.Thing) { x.Hurt = number })
			wrong(func(x *api.Thing) { x.Done = number })
		}
		for mark := range 4 {
			for _, number := range []int{-1, 100, math.MinInt, math.MaxInt} {
				wrong(func(x *api.Thing) { x.Marks[mark] = number })
			}
		}
	}
}

func TestWriteOffTheTable(t *testing.T) {
	m := sample()
	z := m.made(t)
	for _, n := range off() {
		x := m.things[n-1]
		wantWrite(t, z, &m, n, x, api.ErrArg)
		x.Hurt = 1
		wantWrite(t, z, &m, n, x, api.ErrArg)
		x.Hurt, x.Place = 0, api.Table
		wantWrite(t, z, &m, n, x, api.ErrArg)
		x.Stamp = 19
		wantWrite(t, z, &m, n, x, api.ErrArg)
	}
	for _, n := range []int{0, -1, 21, math.MinInt, math.MaxInt} {
		wantWrite(t, z, &m, n, m.things[on()[0]-1], api.ErrMissing)
		wantWrite(t, z, &m, n, api.Thing{}, api.ErrMissing)
	}
}

// P17.6

func wantArrange(t *testing.T, z *zone.Zones, m *zones, owner int, l []int, want api.Errno) {
	t.Helper()
	if e := m.arrange(owner, l); e != want {
		t.Fatalf("the tests' own answer to Arrange(%d, %v) is %v, not %v", owner, l, e, want)
	}
	wantRefused(t, "Arrange", z, *m, z.Arrange(owner, l), want)
}

// orders are all orders of a list.
func orders(l []int) [][]int {
	if len(l) == 0 {
		return [][]int{nil}
	}
	var all [][]int
	for _, first := range l {
		for _, rest := range orders(drop(l, first)) {
			all = append(all, append([]int{first}, rest...))
		}
	}
	return all
}

func TestArrange(t *testing.T) {
	for count := range 6 {
		for owner := range 2 {
			m := crowd(count, owner, api.Deck)
			z := m.made(t)
			for _, order := range orders(m.decks[owner]) {
				wantArrange(t, z, &m, owner, order, api.OK)
			}
			wantArrange(t, z, &m, 1-owner, nil, api.OK)
			wantArrange(t, z, &m, 1-owner, []int{}, api.OK)
		}
	}
	m := deep()
	z := m.made(t)
	for owner := range 2 {
		l := slices.Clone(m.decks[owner])
		slices.Reverse(l)
		wantArrange(t, z, &m, owner, l, api.OK)
		wantMove(t, z, &m, l[3], api.Hand)
		wantArrange(t, z, &m, owner, drop(l, l[3]), api.OK)
		wantArrange(t, z, &m, owner, l, api.ErrArg)
	}
	many := crowd(2048, 1, api.Deck)
	all := many.made(t)
	l := upTo(2048)
	slices.Reverse(l)
	wantArrange(t, all, &many, 1, l, api.OK)
}

func TestArrangeRefused(t *testing.T) {
	m := deep()
	z := m.made(t)
	for _, owner := range []int{-1, 2, math.MinInt, math.MaxInt} {
		for _, l := range [][]int{nil, {}, {1}, m.decks[0], m.decks[1]} {
			wantArrange(t, z, &m, owner, l, api.ErrArg)
		}
	}
	for owner := range 2 {
		deck := slices.Clone(m.decks[owner])
		for _, l := range [][]int{nil, {}, m.decks[1-owner], m.hands[owner], deck[1:], deck[:len(deck)-1], append(deck, deck...), upTo(36), upTo(5000)} {
			wantArrange(t, z, &m, owner, l, api.ErrArg)
		}
		for i, n := range deck {
			for other := -1; other <= 37; other++ {
				want := api.ErrArg
				if other == n {
					want = api.OK
				}
				wantArrange(t, z, &m, owner, slices.Replace(slices.Clone(deck), i, i+1, other), want)
				wantArrange(t, z, &m, owner, slices.Insert(slices.Clone(deck), i, other), api.ErrArg)
			}
		}
	}
}
