package zone_test

import (
	"math"
	"slices"
	"testing"

	"gambit/api"
	"gambit/zone"
)

// P17.1

func wantNew(t *testing.T, one, two []int) *zone.Zones {
	t.Helper()
	m := zones{stamp: 1}
	for owner, list := range [2][]int{one, two} {
		for _, card := range list {
			m.things = append(m.things, api.Thing{Card: card, Owner: owner, Place: api.Deck})
			m.decks[owner] = append(m.decks[owner], len(m.things))
		}
	}
	z, e := zone.New(one, two)
	if e != api.OK || z == nil {
		t.Fatalf("New of %d and %d numbers = %v, %v", len(one), len(two), z, e)
	}
	wantTold(t, z, m)
	return z
}

func wantNoNew(t *testing.T, one, two []int, want api.Errno) {
	t.Helper()
	if z, e := zone.New(one, two); z != nil || e != want {
		t.Errorf("New of %d and %d numbers = %v, %v, want nil, %v", len(one), len(two), z, e, want)
	}
}

func TestNew(t *testing.T) {
	lists := [][]int{nil, {}, {1}, {7, 8, 9}, {5, 5, 5}, {math.MaxInt}, {3, 1, math.MaxInt, 2}, upTo(40)}
	for _, one := range lists {
		for _, two := range lists {
			wantNew(t, one, two)
		}
	}
}

func TestNewOfTheExample(t *testing.T) {
	z := wantNew(t, []int{7, 8, 9}, []int{5})
	if !slices.Equal(z.Deck(0), []int{1, 2, 3}) || !slices.Equal(z.Deck(1), []int{4}) || len(z.Hand(0)) != 0 || z.Stamp() != 1 {
		t.Errorf("decks %v, %v, hand %v, stamp %d", z.Deck(0), z.Deck(1), z.Hand(0), z.Stamp())
	}
}

func TestNewOfManyNumbers(t *testing.T) {
	for _, ones := range []int{0, 1, 1000, 2047, 2048} {
		wantNew(t, upTo(ones), upTo(2048-ones))
		wantNoNew(t, upTo(ones), upTo(2049-ones), api.ErrLong)
		wantNoNew(t, upTo(2049-ones), upTo(ones), api.ErrLong)
	}
	wantNoNew(t, upTo(3000), upTo(3000), api.ErrLong)
}

func TestNewOfNoCards(t *testing.T) {
	for _, below := range []int{0, -1, math.MinInt} {
		for _, list := range [][]int{{below}, {below, 1, 2}, {1, below, 2}, {1, 2, below}} {
			wantNoNew(t, list, nil, api.ErrArg)
			wantNoNew(t, nil, list, api.ErrArg)
			wantNoNew(t, list, []int{1}, api.ErrArg)
			wantNoNew(t, []int{1}, list, api.ErrArg)
			wantNoNew(t, list, list, api.ErrArg)
			wantNoNew(t, list, upTo(2048-len(list)), api.ErrArg)
			wantNoNew(t, list, upTo(2049-len(list)), api.ErrLong)
			wantNoNew(t, upTo(2049-len(list)), list, api.ErrLong)
		}
	}
}
