package thing_test

import (
	"math"
	"testing"

	"gambit/api"
	"gambit/book"
	"gambit/thing"
	"gambit/whole"
	"gambit/zone"
)

// P18.4

func wantUnit(t *testing.T, b *book.Book, x api.Thing, want bool) {
	t.Helper()
	if got := thing.Unit(b, x); got != want {
		t.Errorf("Unit(%+v) = %v, want %v", x, got, want)
	}
}

func TestUnitOfEachCardInEachPlace(t *testing.T) {
	units := map[int]bool{3: true, 4: true, 6: true, 8: true, 10: true} // of the zoo
	b := sealed(t, zoo()...)
	for n := 1; n <= len(zoo()); n++ {
		for _, owner := range append(noOwners(), 0, 1) {
			for _, x := range others(api.Thing{Card: n, Owner: owner, Place: api.Table}) {
				wantUnit(t, b, x, units[n] && x.Place == 4)
			}
		}
		for _, place := range []api.Place{api.Deck, api.Hand, api.Stacked, api.Grave} {
			for _, x := range []api.Thing{{Card: n, Place: place}, {Card: n, Owner: 1, Place: place, Stamp: 1, Hurt: 1, Fresh: true}} {
				wantUnit(t, b, x, false)
			}
		}
	}
}

func TestUnitOfWhatCardRefuses(t *testing.T) {
	for _, cards := range [][]api.Card{nil, pair(), zoo(), many(64)} {
		b := sealed(t, cards...)
		for _, n := range noNumbers(len(cards)) {
			wantUnit(t, b, api.Thing{Card: n, Place: api.Table, Stamp: 1}, false)
		}
	}
	for _, b := range opens(t) {
		for _, n := range append(noNumbers(b.Len()), 1, 2, 3, b.Len()) {
			wantUnit(t, b, api.Thing{Card: n, Place: api.Table, Stamp: 1}, false)
		}
	}
	for _, b := range none() {
		for _, n := range append(noNumbers(2), 1, 2, 3) {
			wantUnit(t, b, api.Thing{Card: n, Place: api.Table, Stamp: 1}, false)
		}
	}
}

func TestUnitAheadOfAndBehindSealing(t *testing.T) {
	b := open(t, pair()...)
	x := api.Thing{Card: 2, Place: api.Table}
	wantUnit(t, b, x, false)
	b.Seal()
	wantUnit(t, b, x, true)
}

// The chapter's examples.
func TestUnitOfExamples(t *testing.T) {
	b := example(t)
	wantUnit(t, b, api.Thing{Card: 2, Place: api.Table}, true)
	wantUnit(t, b, api.Thing{Card: 2, Place: api.Hand}, false)
	wantUnit(t, b, api.Thing{Card: 1, Place: api.Table}, false)
}

// Things of zones, each card of the book of the six suits, as they go from place to place.
func TestUnitOfThingsOfZones(t *testing.T) {
	b := whole.Book()
	n := 0
	for c := range b.Cards() {
		n++
		z, _ := zone.New(nil, []int{n})
		for _, to := range []api.Place{api.Deck, api.Hand, api.Stacked, api.Table, api.Table, api.Grave, api.Table, api.Hand} {
			if e := z.Move(1, to); e != api.OK {
				t.Fatalf("Move(1, %d) = %d", to, e)
			}
			x, _ := z.Thing(1)
			wantUnit(t, b, x, to == api.Table && c.Kind == api.Unit)
		}
	}
}

func wantLeft(t *testing.T, health, hurt, want int) {
	t.Helper()
	for _, f := range []api.Feature{{Health: health}, {Holder: 1, Suit: api.Fire, Traits: 255, Power: 7, Health: health}, {Holder: -3, Suit: 99, Power: math.MinInt, Health: health}} {
		for _, x := range others(api.Thing{Card: 1}) {
			x.Hurt = hurt
			if got := thing.Left(f, x); got != want {
				t.Errorf("Left(%+v, %+v) = %d, want %d", f, x, got, want)
			}
		}
	}
}

func TestLeft(t *testing.T) {
	wantLeft(t, 3, 5, -2) // the chapter's example
	for health := -3; health <= 6; health++ {
		for hurt := -3; hurt <= 6; hurt++ {
			wantLeft(t, health, hurt, health-hurt)
		}
	}
	wantLeft(t, 5, 5, 0)
	wantLeft(t, 99, 9999, -9900)
}

func TestLeftGoesRound(t *testing.T) {
	wantLeft(t, math.MaxInt, 0, math.MaxInt)
	wantLeft(t, math.MinInt, 0, math.MinInt)
	wantLeft(t, math.MinInt, 1, math.MaxInt)
	wantLeft(t, math.MaxInt, -1, math.MinInt)
	wantLeft(t, 0, math.MinInt, math.MinInt)
	wantLeft(t, -1, math.MinInt, math.MaxInt)
	wantLeft(t, 0, math.MaxInt, math.MinInt+1)
	wantLeft(t, -2, math.MaxInt, math.MaxInt)
	wantLeft(t, math.MinInt, math.MaxInt, 1)
	wantLeft(t, math.MaxInt, math.MinInt, -1)
	wantLeft(t, math.MinInt, math.MinInt, 0)
	wantLeft(t, math.MaxInt, math.MaxInt, 0)
}
