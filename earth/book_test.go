package earth_test

import (
	"slices"
	"testing"

	"gambit/api"
	"gambit/book"
	"gambit/card"
	"gambit/earth"
	"gambit/fire"
	"gambit/trait"
)

// P9.5

func TestEachCardMayBe(t *testing.T) {
	for _, c := range earth.List() {
		if e := card.Check(c); e != api.OK {
			t.Errorf("Check of %s = %v, want OK", c.Name, e)
		}
	}
}

func TestNoTwoCardsHaveOneName(t *testing.T) {
	times := map[string]int{}
	for _, c := range earth.List() {
		times[c.Name]++
	}
	if len(times) != 6 {
		t.Errorf("the cards' names are %v, want six", times)
	}
}

// ember is fire's card: golem calls it.
func ember() api.Card {
	for _, c := range fire.List() {
		if c.Name == "ember" {
			return c
		}
	}
	return api.Card{} // no book takes it
}

// adder is an addition to a book.
type adder func(*book.Book) api.Errno

// ownAdders are all that the suit has for a book, one call each.
func ownAdders() []adder {
	var list []adder
	for _, c := range earth.List() {
		list = append(list, func(b *book.Book) api.Errno { return b.Card(c) })
	}
	for _, x := range earth.Traits() {
		list = append(list, func(b *book.Book) api.Errno { return b.Trait(x, trait.Name(x)) })
	}
	for _, m := range earth.Marks() {
		list = append(list, func(b *book.Book) api.Errno { return b.Mark(m) })
	}
	return list
}

// adders are the suit's own, and ember behind them.
func adders() []adder {
	return append(ownAdders(), func(b *book.Book) api.Errno { return b.Card(ember()) })
}

// orders has each order of the numbers from 0 on, so many of them.
func orders(count int) [][]int {
	if count == 0 {
		return [][]int{{}}
	}
	var list [][]int
	for _, order := range orders(count - 1) {
		for place := range count {
			list = append(list, slices.Insert(slices.Clone(order), place, count-1))
		}
	}
	return list
}

// bookOf is a new book to which all was added in an order.
func bookOf(t *testing.T, all []adder, order []int) *book.Book {
	t.Helper()
	b := book.New()
	for _, i := range order {
		if e := all[i](b); e != api.OK {
			t.Fatalf("the order %v: the addition %d is refused with %v", order, i, e)
		}
	}
	return b
}

// sealedOf is a book to which all was added in an order, and that was sealed.
func sealedOf(t *testing.T, all []adder, order []int) *book.Book {
	t.Helper()
	b := bookOf(t, all, order)
	if e := b.Seal(); e != api.OK || !b.Sealed() {
		t.Fatalf("the order %v: Seal = %v, sealed %v, want OK, true", order, e, b.Sealed())
	}
	return b
}

// wantNumbers holds the names by their numbers against their order: Earth's by rising name, then Fire's.
func wantNumbers(t *testing.T, b *book.Book, order []int) {
	t.Helper()
	names := [...]string{"boulder", "clay-man", "golem", "landslide", "pebble", "rampart", "ember"}
	if b.Len() != len(names) {
		t.Fatalf("the order %v: the book has %d cards, want %d", order, b.Len(), len(names))
	}
	for i, name := range names {
		if n, e := b.Find(name); n != i+1 || e != api.OK {
			t.Fatalf("the order %v: Find(%s) = %d, %v, want %d, OK", order, name, n, e, i+1)
		}
		if c, e := b.At(i + 1); c.Name != name || e != api.OK {
			t.Fatalf("the order %v: At(%d) is %q, %v, want %q, OK", order, i+1, c.Name, e, name)
		}
	}
}

// All orders of eight of the nine, with ember at the first place, at the last and in the midst of them.
func TestBookInManyOrders(t *testing.T) {
	all := adders()
	if len(all) != 9 {
		t.Fatalf("there are %d cards, traits and marks, want 9", len(all))
	}
	first := sealedOf(t, all, []int{0, 1, 2, 3, 4, 5, 6, 7, 8})
	for _, order := range orders(8) {
		for _, place := range []int{0, 4, 8} {
			with := slices.Insert(slices.Clone(order), place, 8)
			b := sealedOf(t, all, with)
			wantNumbers(t, b, with)
			if !book.Same(b, first) {
				t.Fatalf("the order %v makes another book", with)
			}
		}
	}
}

func TestBookHoldsTheSuit(t *testing.T) {
	b := sealedOf(t, adders(), []int{8, 7, 6, 5, 4, 3, 2, 1, 0})
	for _, want := range append(wantCards(), ember()) {
		n, _ := b.Find(want.Name)
		if got, e := b.At(n); e != api.OK || !card.Same(got, want) {
			t.Errorf("the book has %+v, %v, want %+v", got, e, want)
		}
	}
	traits := map[api.Trait]string{api.Guard: "guard"}
	for x := api.Fast; x <= api.Swift; x++ {
		if got, ok := b.TraitName(x); got != traits[x] || ok != (traits[x] != "") {
			t.Errorf("TraitName(%d) = %q, %v, want %q", x, got, ok, traits[x])
		}
	}
	marks := map[api.Mark]api.MarkInfo{api.Shield: {Mark: api.Shield, Name: "shield"}}
	for m := api.Up; m <= api.Charge; m++ {
		want, has := marks[m]
		if got, ok := b.MarkOf(m); got != want || ok != has {
			t.Errorf("MarkOf(%d) = %+v, %v, want %+v, %v", m, got, ok, want, has)
		}
	}
}

// Without ember nobody comes whom golem calls; the book stays open, and takes ember still.
func TestBookWithoutEmberIsNotSealed(t *testing.T) {
	own := ownAdders()
	for _, order := range orders(len(own)) {
		b := bookOf(t, own, order)
		if e := b.Seal(); e != api.ErrMissing || b.Sealed() {
			t.Fatalf("the order %v: Seal without ember = %v, sealed %v, want ErrMissing, false", order, e, b.Sealed())
		}
		if one, two := b.Card(ember()), b.Seal(); one != api.OK || two != api.OK {
			t.Fatalf("the order %v: ember behind that, and Seal = %v, %v, want OK, OK", order, one, two)
		}
		wantNumbers(t, b, order)
	}
}

// Without pebble nobody comes whom clay-man calls.
func TestBookWithoutPebbleIsNotSealed(t *testing.T) {
	b := book.New()
	for _, c := range append(earth.List(), ember()) {
		if c.Name == "pebble" {
			continue
		}
		if e := b.Card(c); e != api.OK {
			t.Errorf("Card of %s = %v, want OK", c.Name, e)
		}
	}
	if e := b.Seal(); e != api.ErrMissing || b.Sealed() {
		t.Errorf("Seal without pebble = %v, sealed %v, want ErrMissing, false", e, b.Sealed())
	}
}
