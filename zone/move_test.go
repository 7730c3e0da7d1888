package zone_test

import (
	"math"
	"slices"
	"testing"

	"gambit/api"
	"gambit/zone"
)

// P17.3

// wantMove moves a thing in z and in m, and holds both against each other.
func wantMove(t *testing.T, z *zone.Zones, m *zones, n int, to api.Place) {
	t.Helper()
	want := m.move(n, to)
	if e := z.Move(n, to); e != want {
		t.Fatalf("Move(%d, %d) = %v, want %v", n, to, e, want)
	}
	wantTold(t, z, *m)
}

// wantRefused holds against zones that a call was refused, and nothing has changed.
func wantRefused(t *testing.T, what string, z *zone.Zones, m zones, got, want api.Errno) {
	t.Helper()
	if got != want {
		t.Errorf("%s: %v, want %v", what, got, want)
	}
	wantTold(t, z, m)
}

func TestMoveFromEachPlaceToEachPlace(t *testing.T) {
	for n := 1; n <= 20; n++ {
		for to := api.Deck; to <= api.Grave; to++ {
			for again := api.Deck; again <= api.Grave; again++ {
				m := sample()
				z := m.made(t)
				wantMove(t, z, &m, n, to)
				wantMove(t, z, &m, n, again)
			}
		}
	}
}

func TestMoveOfTheExample(t *testing.T) {
	z, _ := zone.New([]int{7, 8, 9}, []int{5})
	if e := z.Move(2, api.Table); e != api.OK || !slices.Equal(z.Deck(0), []int{1, 3}) || !slices.Equal(z.Table(), []int{2}) {
		t.Errorf("Move(2, Table) = %v, deck %v, table %v", e, z.Deck(0), z.Table())
	}
	if x, e := z.Thing(2); e != api.OK || x != (api.Thing{Card: 8, Place: api.Table, Stamp: 1, Fresh: true}) {
		t.Errorf("Thing(2) = %+v, %v", x, e)
	}
	one, two := z.Move(1, api.Hand), z.Move(1, api.Deck)
	if one != api.OK || two != api.OK || !slices.Equal(z.Deck(0), []int{3, 1}) {
		t.Errorf("to the hand %v, to the deck %v: %v", one, two, z.Deck(0))
	}
	if n, e := z.Make(9, 1); n != 5 || e != api.OK || !slices.Equal(z.Table(), []int{2, 5}) || z.Len() != 5 {
		t.Errorf("Make(9, 1) = %d, %v, table %v, %d things", n, e, z.Table(), z.Len())
	}
	if e := z.Move(2, api.Table); e != api.OK || !slices.Equal(z.Table(), []int{5, 2}) {
		t.Errorf("Move(2, Table) = %v, table %v", e, z.Table())
	}
	if x, _ := z.Thing(2); x.Stamp != 3 {
		t.Errorf("its stamp is %d", x.Stamp)
	}
	m := told(z)
	n, e := z.Make(0, 0)
	if n != 0 {
		t.Errorf("Make(0, 0) = %d", n)
	}
	wantRefused(t, "Make(0, 0)", z, m, e, api.ErrArg)
	wantRefused(t, "Move(9, Hand)", z, m, z.Move(9, api.Hand), api.ErrMissing)
	wantRefused(t, "Move(1, 0)", z, m, z.Move(1, 0), api.ErrArg)
	wantRefused(t, "Arrange(0, (3))", z, m, z.Arrange(0, []int{3}), api.ErrArg)
}

func TestMoveWhereTheThingIs(t *testing.T) {
	z, _ := zone.New([]int{1, 1, 1}, nil)
	z.Move(1, api.Deck)
	if !slices.Equal(z.Deck(0), []int{2, 3, 1}) {
		t.Errorf("the deck is %v", z.Deck(0))
	}
	for n := 1; n <= 3; n++ {
		z.Move(n, api.Hand)
	}
	z.Move(2, api.Hand)
	if !slices.Equal(z.Hand(0), []int{1, 3, 2}) {
		t.Errorf("the hand is %v", z.Hand(0))
	}
	z.Move(3, api.Table)
	z.Write(3, api.Thing{Card: 1, Place: api.Table, Stamp: 1, Hurt: 4, Marks: [4]int{1, 2, 3, 4}, Done: 2})
	z.Move(3, api.Table)
	if x, _ := z.Thing(3); x != (api.Thing{Card: 1, Place: api.Table, Stamp: 2, Fresh: true}) {
		t.Errorf("the thing is %+v", x)
	}
}

func TestMoveRefused(t *testing.T) {
	m := sample()
	z := m.made(t)
	for _, n := range []int{0, -1, 21, math.MinInt, math.MaxInt} {
		for _, to := range []api.Place{0, 1, 2, 3, 4, 5, 6, 255} {
			wantRefused(t, "no thing", z, m, z.Move(n, to), api.ErrMissing)
		}
	}
	for n := 1; n <= 20; n++ {
		for _, to := range []api.Place{0, 6, 7, 128, 255} {
			wantRefused(t, "no place", z, m, z.Move(n, to), api.ErrArg)
		}
	}
	none, _ := zone.New(nil, nil)
	wantRefused(t, "no things", none, zones{stamp: 1}, none.Move(1, api.Deck), api.ErrMissing)
}

// beside are zones with a crowd of one owner's in a place, and a thing of each player in each place.
func beside(count, owner int, place api.Place, stamp int) zones {
	m := crowd(count, owner, place)
	m.stamp = stamp
	for n := 1; n <= count; n++ {
		if place == api.Table {
			m.things[n-1].Stamp = stamp - count + n - 1
		}
	}
	for to := api.Deck; to <= api.Grave; to++ {
		if to != place && to != api.Table {
			for p := range 2 {
				m.things = append(m.things, api.Thing{Card: 1, Owner: p})
				m.comes(len(m.things), to)
			}
		}
	}
	return m
}

func TestMoveToAFullHand(t *testing.T) {
	for owner := range 2 {
		for count := 8; count <= 10; count++ {
			m := beside(count, owner, api.Hand, 5)
			for n := range m.things {
				now := m.clone()
				z := m.made(t)
				x := m.things[n]
				if e, full := z.Move(n+1, api.Hand), count == 10 && x.Owner == owner && x.Place != api.Hand; (e == api.ErrFull) != full {
					t.Errorf("Move of %+v beside %d cards = %v", x, count, e)
				}
				now.move(n+1, api.Hand)
				wantTold(t, z, now)
				wantMove(t, z, &now, n+1, api.Table)
				wantMove(t, z, &now, n+1, api.Hand)
			}
		}
	}
}

func TestMoveToAFullTable(t *testing.T) {
	for owner := range 2 {
		for count := 6; count <= 8; count++ {
			m := beside(count, owner, api.Table, 50)
			for n := range m.things {
				now := m.clone()
				z := m.made(t)
				x := m.things[n]
				if e, full := z.Move(n+1, api.Table), count == 8 && x.Owner == owner && x.Place != api.Table; (e == api.ErrFull) != full {
					t.Errorf("Move of %+v beside %d things = %v", x, count, e)
				}
				now.move(n+1, api.Table)
				wantTold(t, z, now)
				wantMove(t, z, &now, n+1, api.Grave)
				wantMove(t, z, &now, n+1, api.Table)
			}
		}
	}
}

func TestMoveAtTheLastStamp(t *testing.T) {
	for _, count := range []int{1, 8} {
		for _, stamp := range []int{1<<40 - 2, 1<<40 - 1, 1 << 40} {
			m := beside(count, 0, api.Table, stamp)
			for n := range m.things {
				for to := api.Deck; to <= api.Grave; to++ {
					now := m.clone()
					z := m.made(t)
					if e := z.Move(n+1, to); stamp == 1<<40 && to == api.Table && e != api.ErrFull {
						t.Errorf("Move(%d, Table) at the stamp 2^40 = %v", n+1, e)
					}
					now.move(n+1, to)
					wantTold(t, z, now)
					wantMove(t, z, &now, n+1, api.Table)
					wantMove(t, z, &now, n+1, api.Table)
				}
			}
		}
	}
}

func TestMoveOfManyThings(t *testing.T) {
	m := crowd(2048, 1, api.Deck)
	z := m.made(t)
	for _, n := range []int{1, 2048, 1024, 2, 2047} {
		for _, to := range []api.Place{api.Hand, api.Table, api.Deck, api.Deck} {
			wantMove(t, z, &m, n, to)
		}
	}
	wantRefused(t, "one more", z, m, z.Move(2049, api.Deck), api.ErrMissing)
}
