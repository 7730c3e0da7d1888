package gold_test

import (
	"slices"
	"testing"

	"gambit/api"
	"gambit/book"
	"gambit/card"
	"gambit/gold"
	"gambit/trait"
)

// P13.2

func TestEachCardMayBe(t *testing.T) {
	list := gold.List()
	if len(list) != 6 {
		t.Fatalf("List has %d cards, want 6", len(list))
	}
	for _, c := range list {
		if e := card.Check(c); e != api.OK {
			t.Errorf("Check of %s = %v, want OK", c.Name, e)
		}
	}
}

// adder is an addition to a book.
type adder func(*book.Book) api.Errno

// adders are all that the suit has for a book, one call each.
func adders() []adder {
	var list []adder
	for _, c := range gold.List() {
		list = append(list, func(b *book.Book) api.Errno { return b.Card(c) })
	}
	for _, x := range gold.Traits() {
		list = append(list, func(b *book.Book) api.Errno { return b.Trait(x, trait.Name(x)) })
	}
	for _, m := range gold.Marks() {
		list = append(list, func(b *book.Book) api.Errno { return b.Mark(m) })
	}
	return list
}

// orders has each order of the numbers from 0 on, so many of them.
func orders(count int) [][]int {
	if count == 0 {
		return [][]int{{}}
	}
	var list [][]int
	for _, order := range orders(count - 1) {
		for place := range count {
			list = append(list, slices.Insert(slices.Clone(order), place, count-1))
		}
	}
	return list
}

// sealedOf is a new book to which all was added in an order, and that was sealed.
func sealedOf(t *testing.T, all []adder, order []int) *book.Book {
	t.Helper()
	if len(all) != len(order) {
		t.Fatalf("there are %d cards, traits and marks, want %d", len(all), len(order))
	}
	b := book.New()
	for _, i := range order {
		if e := all[i](b); e != api.OK {
			t.Fatalf("the order %v: the addition %d is refused with %v", order, i, e)
		}
	}
	if e := b.Seal(); e != api.OK || !b.Sealed() {
		t.Fatalf("the order %v: Seal = %v, sealed %v, want OK, true", order, e, b.Sealed())
	}
	return b
}

// wantNumbers holds the names by their numbers against the chapter's example.
func wantNumbers(t *testing.T, b *book.Book, order []int) {
	t.Helper()
	names := [...]string{"coin", "idol", "midas", "statue", "tax-man", "treasure"}
	if b.Len() != len(names) {
		t.Fatalf("the order %v: the book has %d cards, want %d", order, b.Len(), len(names))
	}
	for i, name := range names {
		if n, e := b.Find(name); n != i+1 || e != api.OK {
			t.Fatalf("the order %v: Find(%s) = %d, %v, want %d, OK", order, name, n, e, i+1)
		}
		if c, e := b.At(i + 1); c.Name != name || e != api.OK {
			t.Fatalf("the order %v: At(%d) is %q, %v, want %q, OK", order, i+1, c.Name, e, name)
		}
	}
}

func TestBookInEveryOrder(t *testing.T) {
	all := adders()
	first := sealedOf(t, all, []int{0, 1, 2, 3, 4, 5, 6, 7})
	for _, order := range orders(8) {
		b := sealedOf(t, all, order)
		wantNumbers(t, b, order)
		if !book.Same(b, first) {
			t.Fatalf("the order %v makes another book", order)
		}
	}
}

func TestBookHoldsTheSuit(t *testing.T) {
	b := sealedOf(t, adders(), []int{7, 6, 5, 4, 3, 2, 1, 0})
	for _, want := range wantCards() {
		n, _ := b.Find(want.Name)
		if got, e := b.At(n); e != api.OK || !card.Same(got, want) {
			t.Errorf("the book has %+v, %v, want %+v", got, e, want)
		}
	}
	traits := map[api.Trait]string{api.Fixed: "fixed"}
	for x := api.Fast; x <= api.Swift; x++ {
		if got, ok := b.TraitName(x); got != traits[x] || ok != (traits[x] != "") {
			t.Errorf("TraitName(%d) = %q, %v, want %q", x, got, ok, traits[x])
		}
	}
	marks := map[api.Mark]api.MarkInfo{api.Up: {Mark: api.Up, Name: "up", Power: 1, Health: 1}}
	for m := api.Up; m <= api.Charge; m++ {
		want, has := marks[m]
		if got, ok := b.MarkOf(m); got != want || ok != has {
			t.Errorf("MarkOf(%d) = %+v, %v, want %+v, %v", m, got, ok, want, has)
		}
	}
}

// Each is new to the book when it is first added, and is refused a second time.
func TestOpenBookTakesEachOnce(t *testing.T) {
	b := book.New()
	for i, add := range adders() {
		if one, two := add(b), add(b); one != api.OK || two != api.ErrThere {
			t.Errorf("the addition %d twice = %v, %v, want OK, ErrThere", i, one, two)
		}
	}
}

// Without coin nobody comes whom treasure calls; the book stays open, and takes coin still.
func TestBookWithoutCoinIsNotSealed(t *testing.T) {
	all := adders()
	const coin = 1
	for _, order := range orders(len(all)) {
		if order[len(order)-1] != coin {
			continue
		}
		b := book.New()
		for _, i := range order[:len(order)-1] {
			if e := all[i](b); e != api.OK {
				t.Fatalf("the order %v: the addition %d is refused with %v", order, i, e)
			}
		}
		if e := b.Seal(); e != api.ErrMissing || b.Sealed() {
			t.Fatalf("the order %v: Seal without coin = %v, sealed %v, want ErrMissing, false", order, e, b.Sealed())
		}
		if one, two := all[coin](b), b.Seal(); one != api.OK || two != api.OK {
			t.Fatalf("the order %v: coin behind that, and Seal = %v, %v, want OK, OK", order, one, two)
		}
		wantNumbers(t, b, order)
	}
}

// Nobody but treasure calls: without it the book does not want coin.
func TestBookWithoutTreasureWantsNobody(t *testing.T) {
	b := book.New()
	for i, c := range gold.List() {
		if i < 2 { // treasure, coin
			continue
		}
		if e := b.Card(c); e != api.OK {
			t.Errorf("Card of %s = %v, want OK", c.Name, e)
		}
	}
	if e := b.Seal(); e != api.OK || b.Len() != 4 {
		t.Errorf("Seal of the other four = %v, with %d cards, want OK, 4", e, b.Len())
	}
}
