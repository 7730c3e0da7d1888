package book_test

import (
	"iter"
	"math"
	"reflect"
	"slices"
	"testing"

	"gambit/api"
	"gambit/book"
	"gambit/card"
)

// inOrder gives cards by rising suit, then by rising name.
func inOrder(cards []api.Card) []api.Card {
	list := slices.Clone(cards)
	slices.SortFunc(list, func(a, b api.Card) int {
		switch {
		case a.Suit != b.Suit:
			return int(a.Suit) - int(b.Suit)
		case a.Name < b.Name:
			return -1
		}
		return 1
	})
	return list
}

// nearNames are names of which some begin with others, and some are told apart by a - alone, in rising order.
func nearNames() []string {
	return []string{"a", "a-", "a--", "a-a", "a-b", "aa", "aa-", "ab", "abcdefghijklmnopqrs", "abcdefghijklmnopqrst", "ac", "b", "ba", "z", "z-------------------", "zz"}
}

func wantAt(t *testing.T, b *book.Book, n int, want api.Card, wantErr api.Errno) {
	t.Helper()
	got, err := b.At(n)
	if !card.Same(got, want) || err != wantErr {
		t.Errorf("At(%d) = %+v, %d, want %+v, %d", n, got, err, want, wantErr)
	}
}

func wantFind(t *testing.T, b *book.Book, name string, want int, wantErr api.Errno) {
	t.Helper()
	if got, err := b.Find(name); got != want || err != wantErr {
		t.Errorf("Find(%q) = %d, %d, want %d, %d", name, got, err, want, wantErr)
	}
}

// taken gives as many of a sequence as are asked for.
func taken(seq iter.Seq[api.Card], most int) []api.Card {
	var list []api.Card
	if most == 0 {
		return list
	}
	for c := range seq {
		list = append(list, c)
		if len(list) == most {
			break
		}
	}
	return list
}

func sameCards(a, b []api.Card) bool { return slices.EqualFunc(a, b, card.Same) }

// P7.5

func TestToldOfExamples(t *testing.T) {
	b := filled(t, axe(), rock())
	wantFind(t, b, "axe", 0, api.ErrMissing)
	wantAt(t, b, 1, api.Card{}, api.ErrMissing)
	if !b.Has("axe") || b.Len() != 2 || b.Sealed() {
		t.Errorf("the open book has %+v", tell(b))
	}
	wantSeal(t, b, api.OK)
	wantFind(t, b, "axe", 1, api.OK)
	wantFind(t, b, "rock", 2, api.OK)
	wantFind(t, b, "x", 0, api.ErrMissing)
	wantAt(t, b, 1, axe(), api.OK)
	wantAt(t, b, 2, rock(), api.OK)
	wantAt(t, b, 3, api.Card{}, api.ErrMissing)
	if !b.Has("axe") || b.Len() != 2 || !b.Sealed() {
		t.Errorf("the sealed book has %+v", tell(b))
	}
}

func TestNumbersOfBooksOfEachSize(t *testing.T) {
	for count := range 65 {
		cards := sixtyFour()[:count]
		want := inOrder(cards)
		b := filled(t, cards...)
		beyond := []int{math.MinInt, math.MinInt32, -65, -64, -2, -1, 0, count + 1, count + 2, 65, 66, 256, 257, math.MaxInt32, math.MaxInt}
		for n := 1; n <= count; n++ {
			wantAt(t, b, n, api.Card{}, api.ErrMissing)
			wantFind(t, b, want[n-1].Name, 0, api.ErrMissing)
		}
		wantSeal(t, b, api.OK)
		for i, c := range want {
			wantAt(t, b, i+1, c, api.OK)
			wantFind(t, b, c.Name, i+1, api.OK)
		}
		for _, n := range beyond {
			wantAt(t, b, n, api.Card{}, api.ErrMissing)
		}
		if b.Len() != count {
			t.Errorf("Len() of %d cards = %d", count, b.Len())
		}
	}
}

func TestNumbersRiseWithSuitsThenNames(t *testing.T) {
	var cards []api.Card
	for i, name := range nearNames() {
		cards = append(cards, idol(name, api.Suit(1+i%3)))
	}
	want := inOrder(cards)
	slices.Reverse(cards)
	b := sealed(t, cards...)
	for i, c := range want {
		wantAt(t, b, i+1, c, api.OK)
		wantFind(t, b, c.Name, i+1, api.OK)
	}
	for s := api.Air; s <= api.Gold; s++ {
		b := book.New()
		for _, name := range nearNames() {
			wantCard(t, b, spell(name, s), api.OK)
		}
		wantCards(t, b, nearNames()...)
		wantSeal(t, b, api.OK)
		wantCards(t, b, nearNames()...)
	}
}

// The suit alone goes ahead of the name: kind, cost, force, traits and parts count for nothing.
func TestNumbersHangOnSuitAndNameAlone(t *testing.T) {
	full := api.Card{Name: "a", Suit: api.Earth, Kind: api.Unit, Cost: 10, Power: 99, Health: 99, Traits: 255, Token: true, Parts: []api.Part{call("b"), call("b")}}
	b := sealed(t, full, api.Card{Name: "b", Suit: api.Earth, Kind: api.Unit, Health: 1}, spell("c", api.Earth), idol("d", api.Earth), idol("z", api.Air), but(full, func(c *api.Card) { c.Name, c.Suit = "aa", api.Fire }))
	wantCards(t, b, "z", "a", "b", "c", "d", "aa")
}

func TestHasAndFindOfNamesThatAreNone(t *testing.T) {
	open := filled(t, rock(), axe())
	for _, b := range []*book.Book{open, sealed(t, rock(), axe()), sealed(t), book.New()} {
		for _, name := range append(badNames(), "roc", "rock-", "rocks", "ROCK", "ax", "axes", "x", "rock ", " rock", "rock\x00") {
			if b.Has(name) {
				t.Errorf("Has(%q) = true", name)
			}
			wantFind(t, b, name, 0, api.ErrMissing)
		}
	}
}

func TestCardsOfOpenAndSealedBooks(t *testing.T) {
	for count := range 65 {
		cards := sixtyFour()[:count]
		b := filled(t, cards...)
		for range 2 {
			if got := slices.Collect(b.Cards()); !sameCards(got, inOrder(cards)) {
				t.Errorf("Cards() of %d cards = %+v", count, got)
			}
			b.Seal() // once open, once sealed
		}
	}
}

func TestCardsLeftOffEarlyAndGoneOverAgain(t *testing.T) {
	cards := sixtyFour()[:20]
	want := inOrder(cards)
	for _, b := range []*book.Book{filled(t, cards...), sealed(t, cards...)} {
		all := b.Cards()
		for most := range 21 {
			if got := taken(all, most); !sameCards(got, want[:most]) {
				t.Errorf("the first %d of Cards() = %+v", most, got)
			}
			if got := slices.Collect(all); !sameCards(got, want) {
				t.Errorf("Cards() gone over again behind a stop at %d = %+v", most, got)
			}
		}
		for c := range all {
			if got := slices.Collect(all); !sameCards(got, want) {
				t.Errorf("Cards() inside %s = %+v", c.Name, got)
			}
		}
	}
}

// A sequence goes over what was there at the call that gave it.
func TestCardsGoesOverWhatWasThere(t *testing.T) {
	b := book.New()
	none := b.Cards()
	wantCard(t, b, rock(), api.OK)
	one := b.Cards()
	wantCard(t, b, axe(), api.OK)
	var names []string
	for c := range b.Cards() {
		names = append(names, c.Name)
		wantCard(t, b, idol("idol-"+c.Name, c.Suit), api.OK)
		wantCard(t, b, idol("a-"+c.Name, api.Air), api.OK)
	}
	if !slices.Equal(names, []string{"axe", "rock"}) {
		t.Errorf("Cards() while cards are added = %q", names)
	}
	wantSeal(t, b, api.OK)
	if got := slices.Collect(none); len(got) != 0 {
		t.Errorf("Cards() ahead of the first card = %+v", got)
	}
	if got := slices.Collect(one); !sameCards(got, []api.Card{rock()}) {
		t.Errorf("Cards() ahead of the second card = %+v", got)
	}
	wantCards(t, b, "a-axe", "a-rock", "axe", "idol-axe", "idol-rock", "rock")
}

func TestTraitNameAndMarkOfAsRegistered(t *testing.T) {
	b := book.New()
	wantTrait(t, b, api.Venom, "v", api.OK)
	wantTrait(t, b, api.Swift, "s", api.OK)
	wantMark(t, b, api.MarkInfo{Mark: api.Charge, Name: "c", Power: -9, Health: 9}, api.OK)
	wantMark(t, b, api.MarkInfo{Mark: api.Down, Name: "d"}, api.OK)
	for range 2 {
		for n := range math.MaxUint8 + 1 {
			name, ok := b.TraitName(api.Trait(n))
			if want := map[int]string{3: "v", 8: "s"}[n]; name != want || ok != (want != "") {
				t.Errorf("TraitName(%d) = %q, %v, want %q", n, name, ok, want)
			}
			m, ok := b.MarkOf(api.Mark(n))
			want := map[int]api.MarkInfo{4: {Mark: api.Charge, Name: "c", Power: -9, Health: 9}, 2: {Mark: api.Down, Name: "d"}}[n]
			if m != want || ok != (want.Mark != 0) {
				t.Errorf("MarkOf(%d) = %+v, %v, want %+v", n, m, ok, want)
			}
		}
		b.Seal() // once open, once sealed
	}
}

// Every call of what is no book, whatever else it is handed.
func TestWhatIsNoBook(t *testing.T) {
	for _, b := range []*book.Book{nil, {}, new(book.Book)} {
		for range 2 { // refused is nothing: the second time is as the first
			for _, c := range []api.Card{rock(), axe(), {}} {
				wantCard(t, b, c, api.ErrNil)
			}
			for n := range api.Trait(10) {
				for _, name := range []string{"fast", "", "Bad"} {
					wantTrait(t, b, n, name, api.ErrNil)
					wantMark(t, b, api.MarkInfo{Mark: api.Mark(n), Name: name, Power: 3 * int(n)}, api.ErrNil)
				}
			}
			wantSeal(t, b, api.ErrNil)
			for _, n := range []int{math.MinInt, -1, 0, 1, 2, 64, 65, math.MaxInt} {
				wantAt(t, b, n, api.Card{}, api.ErrNil)
			}
			for _, name := range []string{"rock", "", "Bad"} {
				wantFind(t, b, name, 0, api.ErrNil)
				if b.Has(name) {
					t.Errorf("Has(%q) of no book = true", name)
				}
			}
		}
		if got := tell(b); got.Sealed || got.Len != 0 || len(got.Cards) != 0 || len(got.Traits) != 0 || len(got.Marks) != 0 {
			t.Errorf("what is no book tells %+v", got)
		}
		if b.Cards() == nil {
			t.Error("Cards() of no book = nil")
		}
		if got := slices.Collect(b.Cards()); len(got) != 0 {
			t.Errorf("Cards() of no book = %+v", got)
		}
		if b != nil && !reflect.DeepEqual(*b, book.Book{}) {
			t.Errorf("calls of no book have made it %+v", *b)
		}
	}
}
