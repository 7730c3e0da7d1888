package thing_test

import (
	"slices"
	"testing"

	"gambit/api"
	"gambit/book"
	"gambit/thing"
	"gambit/whole"
)

// P18.3

func wantParts(t *testing.T, b *book.Book, x api.Thing, w api.When, want []int, wantErr api.Errno) {
	t.Helper()
	if got, err := thing.Parts(b, x, w); !slices.Equal(got, want) || err != wantErr {
		t.Errorf("Parts(%+v, %d) = %v, %d, want %v, %d", x, w, got, err, want, wantErr)
	}
}

// wantNoParts: a thing is refused for its card, whatever the When and whatever else it says.
func wantNoParts(t *testing.T, b *book.Book, n int, wantErr api.Errno) {
	t.Helper()
	for w := range 256 {
		wantParts(t, b, api.Thing{Card: n}, api.When(w), nil, wantErr)
		wantParts(t, b, api.Thing{Card: n, Owner: 1, Place: api.Table, Stamp: 1}, api.When(w), nil, wantErr)
		wantParts(t, b, api.Thing{Card: n, Owner: 2, Place: 9}, api.When(w), nil, wantErr)
	}
}

func TestPartsOfNoBook(t *testing.T) {
	for _, b := range none() {
		for _, n := range append(noNumbers(2), 1, 2) {
			wantNoParts(t, b, n, api.ErrNil)
		}
	}
}

func TestPartsOfAnOpenBook(t *testing.T) {
	for _, b := range opens(t) {
		for _, n := range append(noNumbers(b.Len()), 1, 2, b.Len()) {
			wantNoParts(t, b, n, api.ErrMissing)
		}
	}
}

func TestPartsOfNoNumberOfTheBook(t *testing.T) {
	for _, cards := range [][]api.Card{nil, pair(), zoo(), many(64)} {
		b := sealed(t, cards...)
		for _, n := range noNumbers(len(cards)) {
			wantNoParts(t, b, n, api.ErrMissing)
		}
	}
}

// Written out: cards of each kind, without parts and with several of one When.
func TestPartsWrittenOut(t *testing.T) {
	b := sealed(t, zoo()...)
	for i, want := range []map[api.When][]int{
		{},
		{api.Played: {0, 1, 2, 3}},
		{api.Struck: {0, 2}, api.Always: {1, 3}},
		{},
		{api.Begun: {0}, api.Rather: {1}, api.Always: {2}, api.Broken: {3}},
		{api.Played: {0}, api.Broken: {1}, api.Begun: {2}, api.Struck: {3}},
		{},
		{api.Rather: {0, 1, 3}, api.Always: {2}},
		{},
		{api.Begun: {0, 2}, api.Played: {1}},
	} {
		for w := range 256 {
			wantParts(t, b, api.Thing{Card: i + 1}, api.When(w), want[api.When(w)], api.OK)
		}
	}
}

// Nothing of the thing but its Card counts: neither who owns it nor where it is.
func TestPartsOfWhateverElseTheThingSays(t *testing.T) {
	b := sealed(t, zoo()...)
	for _, owner := range append(noOwners(), 0, 1) {
		for _, x := range others(api.Thing{Card: 8, Owner: owner}) {
			wantParts(t, b, x, api.Rather, []int{0, 1, 3}, api.OK)
			wantParts(t, b, x, api.Always, []int{2}, api.OK)
			wantParts(t, b, x, api.Played, nil, api.OK)
		}
	}
}

const allWhens = 6

// whenLists are all lists of up to four Whens.
func whenLists() [][]api.When {
	lists := [][]api.When{nil}
	for begin := 0; len(lists[begin]) < api.MaxParts; begin++ {
		for w := range allWhens {
			lists = append(lists, append(slices.Clone(lists[begin]), api.When(w+1)))
		}
	}
	return lists
}

// unitsWith are units with these parts, one of each list, in the order of their numbers.
func unitsWith(lists [][]api.When) []api.Card {
	cards := many(len(lists))
	for i, l := range lists {
		cards[i].Parts = parts(l...)
	}
	return cards
}

// placesOf are the places at which a When stands, by means of the test's own.
func placesOf(l []api.When, w api.When) []int {
	var places []int
	for from := 0; ; {
		at := slices.Index(l[from:], w)
		if at < 0 {
			return places
		}
		places = append(places, from+at)
		from += at + 1
	}
}

// Units with all lists of parts' Whens that there are.
func TestPartsOfAllLists(t *testing.T) {
	lists := whenLists()
	if len(lists) != 1+6+36+216+1296 {
		t.Fatalf("there are %d lists", len(lists))
	}
	for some := range slices.Chunk(lists, api.MaxCards) {
		b := sealed(t, unitsWith(some)...)
		for i, l := range some {
			x := api.Thing{Card: i + 1, Owner: i % 2, Place: api.Place(i % 6)}
			for w := range 10 {
				wantParts(t, b, x, api.When(w), placesOf(l, api.When(w)), api.OK)
			}
			wantParts(t, b, x, 255, nil, api.OK)
		}
	}
}

func TestPartsOfTheBookOfTheSixSuits(t *testing.T) {
	b := whole.Book()
	n := 0
	for c := range b.Cards() {
		n++
		var l []api.When
		for _, p := range c.Parts {
			l = append(l, p.When)
		}
		for w := range 256 {
			wantParts(t, b, api.Thing{Card: n}, api.When(w), placesOf(l, api.When(w)), api.OK)
		}
	}
}
