package thing_test

import (
	"slices"
	"testing"

	"gambit/api"
	"gambit/book"
	"gambit/thing"
	"gambit/whole"
)

// P18.5

// split are two lists of marks that together have at most 99 of each.
func split(state *uint64) (one, two, both [4]int) {
	for i := range both {
		both[i] = chance(0, 99, state)
		one[i] = chance(0, both[i], state)
		two[i] = both[i] - one[i]
	}
	return one, two, both
}

// behind is the Power behind marks, be it below 0 or not.
func behind(infos []api.MarkInfo, power int, marks [4]int) int {
	for _, m := range infos {
		power += marks[m.Mark-1] * m.Power
	}
	return power
}

func marked(t *testing.T, b *book.Book, f api.Feature, marks [4]int) api.Feature {
	t.Helper()
	got, e := thing.Marked(b, f, marks)
	if e != api.OK {
		t.Fatalf("Marked(%+v, %v) = %d", f, marks, e)
	}
	return got
}

func TestMarksAddUp(t *testing.T) {
	state := uint64(5)
	above, below := 0, 0
	for range 400 {
		infos := chanceMarks(&state)
		b := withMarks(t, infos...)
		for range 50 {
			f := api.Feature{Holder: 1, Suit: api.Void, Traits: 12, Power: chance(0, 800, &state), Health: chance(-99, 99, &state)}
			one, two, both := split(&state)
			got, want := marked(t, b, marked(t, b, f, one), two), marked(t, b, f, both)
			if on := behind(infos, f.Power, one); on < 0 {
				below++
				got.Power, want.Power = 0, 0 // Health adds up still
			} else {
				above++
			}
			if got != want {
				t.Errorf("Marked(%+v) of %v, then %v: %+v, of both: %+v", f, one, two, got, want)
			}
		}
	}
	if above < 1000 || below < 1000 {
		t.Errorf("on the way the power was below 0 %d times, and not %d times", below, above)
	}
}

// Where the power on the way is below 0, it is 0 there, and what is added then is added to that.
func TestMarksDoNotAddUpByNought(t *testing.T) {
	b := example(t)
	f := api.Feature{Power: 1, Health: 1}
	first := marked(t, b, f, [4]int{0, 3, 0, 0})
	if first != (api.Feature{Power: 0, Health: -2}) {
		t.Errorf("behind three Down: %+v", first)
	}
	if got := marked(t, b, first, [4]int{3, 0, 0, 0}); got != (api.Feature{Power: 3, Health: 1}) {
		t.Errorf("then three Up: %+v", got)
	}
	if got := marked(t, b, f, [4]int{3, 3, 0, 0}); got != f {
		t.Errorf("both together: %+v", got)
	}
}

// Marks one by one are as many at once.
func TestMarksOneByOne(t *testing.T) {
	b := example(t)
	for i := range 4 {
		var one, many [4]int
		one[i] = 1
		got := api.Feature{Power: 99, Health: 5}
		for count := 1; count <= 99; count++ {
			many[i] = count
			got = marked(t, b, got, one)
			if want := marked(t, b, api.Feature{Power: 99, Health: 5}, many); got != want {
				t.Errorf("%d of the mark %d one by one: %+v, at once: %+v", count, i+1, got, want)
			}
		}
	}
}

// wantEachPlaceOnce: the lists of the six Whens together, each of which rises, have each place once.
func wantEachPlaceOnce(t *testing.T, b *book.Book, n int) {
	t.Helper()
	x := api.Thing{Card: n}
	c, _ := thing.Card(b, x)
	var all, want []int
	for w := api.Played; w <= api.Rather; w++ {
		l, e := thing.Parts(b, x, w)
		if e != api.OK || !slices.IsSorted(l) {
			t.Errorf("Parts(%+v, %d) = %v, %d", x, w, l, e)
		}
		all = append(all, l...)
	}
	for place := range c.Parts {
		want = append(want, place)
	}
	slices.Sort(all)
	if !slices.Equal(all, want) {
		t.Errorf("of the card %d the six Whens have %v, want %v", n, all, want)
	}
}

func TestEachPlaceIsOfOneWhen(t *testing.T) {
	books := []*book.Book{sealed(t, zoo()...), example(t), whole.Book()}
	for some := range slices.Chunk(whenLists(), api.MaxCards) {
		books = append(books, sealed(t, unitsWith(some)...))
	}
	for _, b := range books {
		for n := 1; n <= b.Len(); n++ {
			wantEachPlaceOnce(t, b, n)
		}
	}
}
