package void_test

import (
	"slices"
	"testing"

	"gambit/air"
	"gambit/api"
	"gambit/book"
	"gambit/card"
	"gambit/trait"
	"gambit/void"
)

// P12.5

func TestEachCardMayBe(t *testing.T) {
	list := void.List()
	if len(list) != 6 {
		t.Fatalf("List has %d cards, want 6", len(list))
	}
	for _, c := range list {
		if e := card.Check(c); e != api.OK {
			t.Errorf("Check of %s = %v, want OK", c.Name, e)
		}
	}
}

func TestNoTwoCardsHaveOneName(t *testing.T) {
	times := map[string]int{}
	for _, c := range void.List() {
		times[c.Name]++
	}
	if len(times) != 6 {
		t.Errorf("the cards' names are %v, want six", times)
	}
}

// wisp is air's card: echo calls it.
func wisp() api.Card {
	for _, c := range air.List() {
		if c.Name == "wisp" {
			return c
		}
	}
	return api.Card{} // no book takes it
}

// adder is an addition to a book.
type adder func(*book.Book) api.Errno

// addersOf are cards, traits and marks for a book, one call each.
func addersOf(cards []api.Card, traits []api.Trait, marks []api.MarkInfo) []adder {
	var list []adder
	for _, c := range cards {
		list = append(list, func(b *book.Book) api.Errno { return b.Card(c) })
	}
	for _, x := range traits {
		list = append(list, func(b *book.Book) api.Errno { return b.Trait(x, trait.Name(x)) })
	}
	for _, m := range marks {
		list = append(list, func(b *book.Book) api.Errno { return b.Mark(m) })
	}
	return list
}

// ownAdders are all that the suit has for a book: the cards 0 to 5, the trait 6, the mark 7.
func ownAdders(t *testing.T) []adder {
	t.Helper()
	own := addersOf(void.List(), void.Traits(), void.Marks())
	if len(own) != 8 {
		t.Fatalf("the suit has %d cards, traits and marks, want 8", len(own))
	}
	return own
}

// adders are the suit's own, and wisp behind them: the addition 8.
func adders(t *testing.T) []adder {
	t.Helper()
	return append(ownAdders(t), addersOf([]api.Card{wisp()}, nil, nil)...)
}

// orders has each order of the numbers from 0 on, so many of them.
func orders(count int) [][]int {
	if count == 0 {
		return [][]int{{}}
	}
	var list [][]int
	for _, order := range orders(count - 1) {
		for place := range count {
			list = append(list, slices.Insert(slices.Clone(order), place, count-1))
		}
	}
	return list
}

// bookOf is a new book to which all was added in an order.
func bookOf(t *testing.T, all []adder, order []int) *book.Book {
	t.Helper()
	b := book.New()
	for _, i := range order {
		if e := all[i](b); e != api.OK {
			t.Fatalf("the order %v: the addition %d is refused with %v", order, i, e)
		}
	}
	return b
}

// sealedOf is a book to which all was added in an order, and that was sealed.
func sealedOf(t *testing.T, all []adder, order []int) *book.Book {
	t.Helper()
	b := bookOf(t, all, order)
	if e := b.Seal(); e != api.OK || !b.Sealed() {
		t.Fatalf("the order %v: Seal = %v, sealed %v, want OK, true", order, e, b.Sealed())
	}
	return b
}

// wantNumbers holds the names by their numbers against their order: Air's, then Void's by rising name.
func wantNumbers(t *testing.T, b *book.Book, order []int) {
	t.Helper()
	names := [...]string{"wisp", "echo", "hollow", "hush", "nullifier", "shade", "thief"}
	if b.Len() != len(names) {
		t.Fatalf("the order %v: the book has %d cards, want %d", order, b.Len(), len(names))
	}
	for i, name := range names {
		if n, e := b.Find(name); n != i+1 || e != api.OK {
			t.Fatalf("the order %v: Find(%s) = %d, %v, want %d, OK", order, name, n, e, i+1)
		}
		if c, e := b.At(i + 1); c.Name != name || e != api.OK {
			t.Fatalf("the order %v: At(%d) is %q, %v, want %q, OK", order, i+1, c.Name, e, name)
		}
	}
}

// All 362,880 orders of the nine: those of the suit's own eight, with wisp at each place among them.
func TestBookInEveryOrder(t *testing.T) {
	all := adders(t)
	first := sealedOf(t, all, []int{0, 1, 2, 3, 4, 5, 6, 7, 8})
	for _, order := range orders(8) {
		for place := range 9 {
			with := slices.Insert(slices.Clone(order), place, 8)
			b := sealedOf(t, all, with)
			wantNumbers(t, b, with)
			if !book.Same(b, first) {
				t.Fatalf("the order %v makes another book", with)
			}
		}
	}
}

func TestBookHoldsTheSuit(t *testing.T) {
	b := sealedOf(t, adders(t), []int{8, 7, 6, 5, 4, 3, 2, 1, 0})
	for _, want := range append(wantCards(), wisp()) {
		n, _ := b.Find(want.Name)
		if got, e := b.At(n); e != api.OK || !card.Same(got, want) {
			t.Errorf("the book has %+v, %v, want %+v", got, e, want)
		}
	}
	traits := map[api.Trait]string{api.Mute: "mute"}
	for x := api.Fast; x <= api.Swift; x++ {
		if got, ok := b.TraitName(x); got != traits[x] || ok != (traits[x] != "") {
			t.Errorf("TraitName(%d) = %q, %v, want %q", x, got, ok, traits[x])
		}
	}
	marks := map[api.Mark]api.MarkInfo{api.Down: {Mark: api.Down, Name: "down", Power: -1, Health: -1}}
	for m := api.Up; m <= api.Charge; m++ {
		want, has := marks[m]
		if got, ok := b.MarkOf(m); got != want || ok != has {
			t.Errorf("MarkOf(%d) = %+v, %v, want %+v, %v", m, got, ok, want, has)
		}
	}
}

// Each is new to the book when it is first added, and is refused a second time.
func TestOpenBookTakesEachOnce(t *testing.T) {
	b := book.New()
	for i, add := range adders(t) {
		if one, two := add(b), add(b); one != api.OK || two != api.ErrThere {
			t.Errorf("the addition %d twice = %v, %v, want OK, ErrThere", i, one, two)
		}
	}
}

// Without wisp nobody comes whom echo calls; the book stays open, and takes wisp still.
func TestBookWithoutWispIsNotSealed(t *testing.T) {
	own := ownAdders(t)
	for _, order := range orders(len(own)) {
		b := bookOf(t, own, order)
		if e := b.Seal(); e != api.ErrMissing || b.Sealed() {
			t.Fatalf("the order %v: Seal without wisp = %v, sealed %v, want ErrMissing, false", order, e, b.Sealed())
		}
		if one, two := b.Card(wisp()), b.Seal(); one != api.OK || two != api.OK {
			t.Fatalf("the order %v: wisp behind that, and Seal = %v, %v, want OK, OK", order, one, two)
		}
		wantNumbers(t, b, order)
	}
}

// Echo calls shade, too: wisp alone is not enough.
func TestBookWithoutShadeIsNotSealed(t *testing.T) {
	b := bookOf(t, adders(t), []int{0, 1, 3, 4, 5, 6, 7, 8})
	if e := b.Seal(); e != api.ErrMissing || b.Sealed() {
		t.Errorf("Seal without shade = %v, sealed %v, want ErrMissing, false", e, b.Sealed())
	}
}

// Nobody but echo calls: without it the book wants neither wisp nor shade.
func TestBookWithoutEchoWantsNobody(t *testing.T) {
	sealedOf(t, ownAdders(t), []int{0, 1, 3, 4, 6, 7})
}

// Wisp may come with all the others of its suit.
func TestBookWithAllOfAir(t *testing.T) {
	both := append(ownAdders(t), addersOf(air.List(), air.Traits(), air.Marks())...)
	var rising []int
	for i := range both {
		rising = append(rising, i)
	}
	falling := slices.Clone(rising)
	slices.Reverse(falling)
	one, two := sealedOf(t, both, rising), sealedOf(t, both, falling)
	if one.Len() != 12 || !book.Same(one, two) {
		t.Errorf("the book has %d cards, the same in either order %v, want 12, true", one.Len(), book.Same(one, two))
	}
}
