package thing_test

import (
	"testing"

	"gambit/api"
	"gambit/book"
	"gambit/card"
	"gambit/thing"
	"gambit/whole"
)

// P18.1

func wantCard(t *testing.T, b *book.Book, x api.Thing, want api.Card, wantErr api.Errno) {
	t.Helper()
	if got, err := thing.Card(b, x); !card.Same(got, want) || err != wantErr {
		t.Errorf("Card(%+v) = %+v, %d, want %+v, %d", x, got, err, want, wantErr)
	}
}

func wantPrinted(t *testing.T, b *book.Book, x api.Thing, want api.Feature, wantErr api.Errno) {
	t.Helper()
	if got, err := thing.Printed(b, x); got != want || err != wantErr {
		t.Errorf("Printed(%+v) = %+v, %d, want %+v, %d", x, got, err, want, wantErr)
	}
}

// wantNone: both refuse a thing for its card, whatever else it says.
func wantNone(t *testing.T, b *book.Book, n int, wantErr api.Errno) {
	t.Helper()
	for _, owner := range append(noOwners(), 0, 1) {
		for _, x := range []api.Thing{
			{Card: n, Owner: owner},
			{Card: n, Owner: owner, Place: api.Table, Stamp: 1, Fresh: true},
			{Card: n, Owner: owner, Place: 9, Stamp: -1, Hurt: -1, Marks: [4]int{100, -1, 0, 0}, Done: -1},
		} {
			wantCard(t, b, x, api.Card{}, wantErr)
			wantPrinted(t, b, x, api.Feature{}, wantErr)
		}
	}
}

func TestCardOfNoBook(t *testing.T) {
	for _, b := range none() {
		for _, n := range append(noNumbers(2), 1, 2) {
			wantNone(t, b, n, api.ErrNil)
		}
	}
}

func TestCardOfAnOpenBook(t *testing.T) {
	for _, b := range opens(t) {
		for _, n := range append(noNumbers(b.Len()), 1, 2, b.Len()) {
			wantNone(t, b, n, api.ErrMissing)
		}
	}
}

func TestCardAheadOfAndBehindSealing(t *testing.T) {
	b := open(t, pair()...)
	x := api.Thing{Card: 2}
	wantCard(t, b, x, api.Card{}, api.ErrMissing)
	wantPrinted(t, b, x, api.Feature{}, api.ErrMissing)
	b.Seal()
	wantCard(t, b, x, pair()[1], api.OK)
	wantPrinted(t, b, x, api.Feature{Suit: api.Earth, Traits: 2, Power: 2, Health: 3}, api.OK)
}

func TestCardOfNoNumberOfTheBook(t *testing.T) {
	for _, cards := range [][]api.Card{nil, pair(), zoo(), many(1), many(63), many(64)} {
		b := sealed(t, cards...)
		for _, n := range noNumbers(len(cards)) {
			wantNone(t, b, n, api.ErrMissing)
		}
	}
}

func TestCardOfEachNumber(t *testing.T) {
	for _, cards := range [][]api.Card{pair(), zoo(), many(1), many(63), many(64)} {
		b := sealed(t, cards...)
		for i, c := range cards {
			for _, owner := range append(noOwners(), 0, 1) {
				wantCard(t, b, api.Thing{Card: i + 1, Owner: owner}, c, api.OK)
			}
			for _, x := range others(api.Thing{Card: i + 1}) {
				wantCard(t, b, x, c, api.OK)
			}
		}
	}
}

// printed is the chapter's Feature, by means of the test's own.
func printed(c api.Card, owner int) api.Feature {
	var f api.Feature
	f.Holder, f.Suit, f.Traits, f.Power, f.Health = owner, c.Suit, c.Traits, c.Power, c.Health
	return f
}

func TestPrintedOfEachNumber(t *testing.T) {
	for _, cards := range [][]api.Card{pair(), zoo(), many(1), many(64)} {
		b := sealed(t, cards...)
		for i, c := range cards {
			for owner := range 2 {
				for _, x := range others(api.Thing{Card: i + 1, Owner: owner}) {
					wantPrinted(t, b, x, printed(c, owner), api.OK)
				}
			}
		}
	}
}

// Written out, one of each kind.
func TestPrintedOfEachKind(t *testing.T) {
	b := sealed(t, zoo()...)
	for owner := range 2 {
		wantPrinted(t, b, api.Thing{Card: 1, Owner: owner}, api.Feature{Holder: owner, Suit: api.Air, Traits: 1}, api.OK)
		wantPrinted(t, b, api.Thing{Card: 3, Owner: owner}, api.Feature{Holder: owner, Suit: api.Earth, Traits: 2, Power: 4, Health: 5}, api.OK)
		wantPrinted(t, b, api.Thing{Card: 5, Owner: owner}, api.Feature{Holder: owner, Suit: api.Fire, Traits: 32}, api.OK)
		wantPrinted(t, b, api.Thing{Card: 10, Owner: owner}, api.Feature{Holder: owner, Suit: api.Gold, Traits: 255, Power: 99, Health: 99}, api.OK)
	}
}

func TestPrintedOfNoOwner(t *testing.T) {
	for _, cards := range [][]api.Card{pair(), zoo(), many(64)} {
		b := sealed(t, cards...)
		for n := 1; n <= len(cards); n++ {
			for _, owner := range noOwners() {
				wantPrinted(t, b, api.Thing{Card: n, Owner: owner}, api.Feature{}, api.ErrArg)
				wantPrinted(t, b, api.Thing{Card: n, Owner: owner, Place: api.Table, Stamp: 1, Fresh: true}, api.Feature{}, api.ErrArg)
			}
		}
	}
}

// Marks of the book, and marks that lie on the thing, are no print.
func TestPrintedOfABookWithMarks(t *testing.T) {
	b := seal(t, mark(t, open(t, zoo()...), fourMarks()...))
	for i, c := range zoo() {
		wantPrinted(t, b, api.Thing{Card: i + 1, Place: api.Table, Stamp: 1, Hurt: 1, Marks: [4]int{1, 2, 3, 4}}, printed(c, 0), api.OK)
	}
}

// The chapter's examples.
func TestPrintedOfExamples(t *testing.T) {
	b := example(t)
	wantPrinted(t, b, api.Thing{Card: 2, Owner: 1}, api.Feature{Holder: 1, Suit: api.Earth, Traits: 2, Power: 2, Health: 3}, api.OK)
	wantPrinted(t, b, api.Thing{Card: 3}, api.Feature{}, api.ErrMissing)
	wantPrinted(t, b, api.Thing{Card: 2, Owner: 2}, api.Feature{}, api.ErrArg)
	wantPrinted(t, b, api.Thing{Card: 3, Owner: 2}, api.Feature{}, api.ErrMissing)
}

func TestPrintedOfTheBookOfTheSixSuits(t *testing.T) {
	b := whole.Book()
	n := 0
	for c := range b.Cards() {
		n++
		wantCard(t, b, api.Thing{Card: n, Owner: 5}, c, api.OK)
		for owner := range 2 {
			wantPrinted(t, b, api.Thing{Card: n, Owner: owner}, printed(c, owner), api.OK)
		}
	}
	wantNone(t, b, n+1, api.ErrMissing)
}
