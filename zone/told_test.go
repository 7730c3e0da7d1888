package zone_test

import (
	"math"
	"slices"
	"testing"

	"gambit/api"
	"gambit/zone"
)

// P17.7

func TestToldInOrder(t *testing.T) {
	m := sample()
	z := m.made(t)
	wantTold(t, z, m)
	for p := range 2 {
		for _, place := range []api.Place{api.Stacked, api.Grave} {
			if l := z.In(p, place); len(l) != 2 || l[0] > l[1] {
				t.Errorf("In(%d, %d) = %v", p, place, l)
			}
		}
		if l := z.In(p, api.Table); len(l) != 2 || l[0] < l[1] { // the sample's stamps fall where numbers rise
			t.Errorf("In(%d, Table) = %v", p, l)
		}
		if l := z.In(p, api.Deck); !slices.Equal(l, z.Deck(p)) || l[0] < l[1] {
			t.Errorf("In(%d, Deck) = %v", p, l)
		}
		if l := z.In(p, api.Hand); !slices.Equal(l, z.Hand(p)) || l[0] < l[1] {
			t.Errorf("In(%d, Hand) = %v", p, l)
		}
	}
}

func TestToldOutOfBounds(t *testing.T) {
	for _, m := range []zones{sample(), deep(), {stamp: 1}} {
		z := m.made(t)
		for _, owner := range []int{-1, 2, math.MinInt, math.MaxInt} {
			if len(z.Deck(owner)) != 0 || len(z.Hand(owner)) != 0 {
				t.Errorf("Deck(%d) = %v, Hand = %v", owner, z.Deck(owner), z.Hand(owner))
			}
			for place := range 256 {
				if l := z.In(owner, api.Place(place)); len(l) != 0 {
					t.Errorf("In(%d, %d) = %v", owner, place, l)
				}
			}
		}
		for owner := range 2 {
			for place := range 256 {
				if l := z.In(owner, api.Place(place)); (place < 1 || place > 5) && len(l) != 0 {
					t.Errorf("In(%d, %d) = %v", owner, place, l)
				}
			}
		}
		for _, n := range []int{0, -1, len(m.things) + 1, math.MinInt, math.MaxInt} {
			if x, e := z.Thing(n); x != (api.Thing{}) || e != api.ErrMissing {
				t.Errorf("Thing(%d) = %+v, %v", n, x, e)
			}
		}
	}
}

// Each thing is told in one place.
func TestEachThingIsInOnePlace(t *testing.T) {
	m := deep()
	z := m.made(t)
	var all []int
	for p := range 2 {
		for place := api.Deck; place <= api.Grave; place++ {
			all = append(all, z.In(p, place)...)
		}
	}
	slices.Sort(all)
	if !slices.Equal(all, upTo(36)) {
		t.Errorf("all places have %v", all)
	}
}

// Rule 5: nil, and zones that nobody made.
func TestZonesThatNobodyMade(t *testing.T) {
	for _, z := range []*zone.Zones{nil, {}, new(zone.Zones)} {
		for _, n := range []int{-1, 0, 1, 2, 3000} {
			for place := range 7 {
				if e := z.Move(n, api.Place(place)); e != api.ErrNil {
					t.Errorf("Move(%d, %d) = %v", n, place, e)
				}
				if l := z.In(n, api.Place(place)); len(l) != 0 {
					t.Errorf("In(%d, %d) = %v", n, place, l)
				}
			}
			for owner := -1; owner <= 2; owner++ {
				if made, e := z.Make(n, owner); made != 0 || e != api.ErrNil {
					t.Errorf("Make(%d, %d) = %d, %v", n, owner, made, e)
				}
			}
			for _, x := range []api.Thing{{}, {Card: 1, Place: api.Table, Stamp: 1}} {
				if e := z.Write(n, x); e != api.ErrNil {
					t.Errorf("Write(%d, %+v) = %v", n, x, e)
				}
			}
			for _, l := range [][]int{nil, {}, {1}} {
				if e := z.Arrange(n, l); e != api.ErrNil {
					t.Errorf("Arrange(%d, %v) = %v", n, l, e)
				}
			}
			if x, e := z.Thing(n); x != (api.Thing{}) || e != api.ErrNil {
				t.Errorf("Thing(%d) = %+v, %v", n, x, e)
			}
			if len(z.Deck(n)) != 0 || len(z.Hand(n)) != 0 {
				t.Errorf("Deck(%d) = %v, Hand = %v", n, z.Deck(n), z.Hand(n))
			}
		}
		if len(z.Things()) != 0 || len(z.Table()) != 0 || z.Len() != 0 || z.Stamp() != 0 {
			t.Errorf("%v, %v, %d, %d", z.Things(), z.Table(), z.Len(), z.Stamp())
		}
	}
}
