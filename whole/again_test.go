package whole_test

import (
	"math"
	"slices"
	"testing"

	"gambit/api"
	"gambit/book"
	"gambit/whole"
)

// P14.3, P14.6

// orders has each order of the numbers from 0 on, so many of them.
func orders(count int) [][]int {
	if count == 0 {
		return [][]int{{}}
	}
	var list [][]int
	for _, order := range orders(count - 1) {
		for place := range count {
			list = append(list, slices.Insert(slices.Clone(order), place, count-1))
		}
	}
	return list
}

func TestAgainOfEveryOrder(t *testing.T) {
	first := whole.Book()
	list := orders(6)
	if len(list) != 720 {
		t.Fatalf("there are %d orders, want 720", len(list))
	}
	for _, order := range list {
		handed := slices.Clone(order)
		b, e := whole.Again(handed)
		if e != api.OK || b == first || !book.Same(b, first) || !book.Same(first, b) {
			t.Fatalf("Again(%v) = %v; the same as Book's: %v", order, e, book.Same(b, first))
		}
		if !slices.Equal(handed, order) {
			t.Fatalf("Again(%v) left the list as %v", order, handed)
		}
		wantBook(t, "Again", b)
		if t.Failed() {
			t.Fatalf("Again(%v) tells otherwise than the chapters", order)
		}
	}
	wantBook(t, "Book behind all orders", whole.Book())
}

// wantArg holds against Again that a list is refused, and stays.
func wantArg(t *testing.T, order []int) {
	t.Helper()
	handed := slices.Clone(order)
	if b, e := whole.Again(handed); b != nil || e != api.ErrArg {
		t.Errorf("Again(%v) = %p, %v, want nil, ErrArg", order, b, e)
	}
	if !slices.Equal(handed, order) {
		t.Errorf("Again(%v) left the list as %v", order, handed)
	}
}

func TestAgainOfNone(t *testing.T) {
	wantArg(t, nil)
	wantArg(t, []int{})
}

func TestAgainOfShorterAndLonger(t *testing.T) {
	for _, order := range orders(6) {
		for count := range len(order) {
			wantArg(t, order[:count:count])
		}
		for _, more := range []int{-1, 0, 5, 6} {
			wantArg(t, append(slices.Clone(order), more))
		}
	}
	wantArg(t, []int{0, 1, 2, 3, 4, 5, 0, 1, 2, 3, 4, 5})
	wantArg(t, make([]int, 1<<20))
}

// Of all lists of six numbers from -1 to 6 just the 720 orders are taken: one is twice, or out of its bounds, in each other one.
func TestAgainOfEverySix(t *testing.T) {
	const low, high, count = -1, 6, 6
	taken := 0
	order := slices.Repeat([]int{low}, count)
	for more := true; more; more = next(order, low, high) {
		sorted := slices.Sorted(slices.Values(order))
		if slices.Equal(sorted, []int{0, 1, 2, 3, 4, 5}) {
			taken++ // TestAgainOfEveryOrder asks these
			continue
		}
		wantArg(t, order)
		if t.Failed() {
			return
		}
	}
	if taken != 720 {
		t.Errorf("%d lists are orders, want 720", taken)
	}
}

// next counts a list one up, each number from low to high, and tells whether it has not begun anew.
func next(order []int, low, high int) bool {
	for i := range order {
		if order[i] < high {
			order[i]++
			return true
		}
		order[i] = low
	}
	return false
}

// A number is none of the six for its last bits alone.
func TestAgainOfFarNumbers(t *testing.T) {
	far := []int{math.MinInt, math.MaxInt, 1 << 8, 1 << 16, 1 << 32, -1 << 32, 255, -6, 100}
	for place := range 6 {
		for _, n := range far {
			order := []int{0, 1, 2, 3, 4, 5}
			order[place] += n // wraps round at the ends
			wantArg(t, order)
			order[place] = n
			wantArg(t, order)
		}
	}
}

// The list's spare room is neither read nor written, nor is the list looked at later.
func TestAgainAndTheSpareRoom(t *testing.T) {
	room := []int{5, 4, 3, 2, 1, 0, 9, -9}
	b, e := whole.Again(room[:6])
	if e != api.OK || !slices.Equal(room, []int{5, 4, 3, 2, 1, 0, 9, -9}) {
		t.Errorf("Again = %v, the room is %v", e, room)
	}
	clear(room)
	wantBook(t, "Again, its list written over", b)
	if b, e := whole.Again([]int{0, 1, 2, 3, 4, 5}[:5]); b != nil || e != api.ErrArg {
		t.Errorf("Again of five, with a sixth behind = %p, %v, want nil, ErrArg", b, e)
	}
}

func TestAgainIsAnotherBookEachTime(t *testing.T) {
	order := []int{2, 0, 5, 4, 1, 3}
	one, _ := whole.Again(order)
	two, _ := whole.Again(order)
	three := whole.Book()
	if one == two || one == three || two == three {
		t.Error("two of the books are one")
	}
	for _, b := range []*book.Book{one, two, three} {
		wantRefusal(t, "one of three", b)
		wantBook(t, "Again", one)
		wantBook(t, "Again once more", two)
		wantBook(t, "Book", three)
		if !book.Same(one, two) || !book.Same(two, three) {
			t.Error("the books are not the same any more")
		}
	}
	four, e := whole.Again(order)
	if e != api.OK || !book.Same(four, one) {
		t.Errorf("Again behind that = %v; the same: %v", e, book.Same(four, one))
	}
}
