package thing_test

import (
	"slices"
	"sync"
	"testing"

	"gambit/api"
	"gambit/book"
	"gambit/thing"
)

// Rule 4: what was handed in stays; each answer is new memory.

// writeOver writes something into a list, its spare room too.
func writeOver[T any](l []T, with T) {
	for i := range l[:cap(l)] {
		l[:cap(l)][i] = with
	}
}

// twins are a book and another one that is the same.
func twins(t *testing.T) (one, two *book.Book) {
	t.Helper()
	made := func() *book.Book { return seal(t, mark(t, open(t, zoo()...), fourMarks()...)) }
	return made(), made()
}

func wantSame(t *testing.T, b, twin *book.Book) {
	t.Helper()
	if !book.Same(b, twin) {
		t.Error("the book was changed")
	}
}

func TestCardIsNewMemory(t *testing.T) {
	b, twin := twins(t)
	for i, want := range zoo() {
		x := api.Thing{Card: i + 1}
		one, _ := thing.Card(b, x)
		two, _ := thing.Card(b, x)
		for _, p := range one.Parts[len(one.Parts):cap(one.Parts)] {
			if p != (api.Part{}) {
				t.Errorf("%+v stands in an answer's spare room", p)
			}
		}
		writeOver(one.Parts, api.Part{When: 9, Verb: 99, Name: "over"})
		_ = append(one.Parts, api.Part{When: 9})
		if !slices.Equal(two.Parts, want.Parts) {
			t.Errorf("the other answer is %+v, want %+v", two, want)
		}
		wantCard(t, b, x, want, api.OK)
		for w := range 10 {
			places, _ := thing.Parts(twin, x, api.When(w))
			wantParts(t, b, x, api.When(w), places, api.OK)
		}
		wantSame(t, b, twin)
	}
}

func TestPartsAreNewMemory(t *testing.T) {
	b, twin := twins(t)
	for n := range len(zoo()) + 2 {
		for w := range 10 {
			x := api.Thing{Card: n}
			one, e := thing.Parts(b, x, api.When(w))
			two, _ := thing.Parts(b, x, api.When(w))
			want := slices.Clone(one)
			for _, place := range one[len(one):cap(one)] {
				if place != 0 {
					t.Errorf("%d stands in an answer's spare room", place)
				}
			}
			writeOver(one, -7)
			_ = append(one, -7)
			if !slices.Equal(two, want) {
				t.Errorf("the other answer is %v, want %v", two, want)
			}
			wantParts(t, b, x, api.When(w), want, e)
			wantSame(t, b, twin)
		}
	}
}

// The thing, the features and the marks that a caller holds stay its own, and so does the book, open or sealed, refused or not.
func TestWhatIsHandedInStays(t *testing.T) {
	sealedOne, sealedTwin := twins(t)
	openOne, openTwin := opens(t)[4], opens(t)[4]
	for _, same := range [][2]*book.Book{{sealedOne, sealedTwin}, {openOne, openTwin}} {
		for _, x := range []api.Thing{{}, {Card: 3, Owner: 1, Place: api.Table, Stamp: 2, Hurt: 3, Marks: [4]int{4, 5, 6, 7}, Done: 1, Fresh: true}, {Card: 99, Owner: 9, Marks: [4]int{-1, 100, 0, 0}}} {
			for _, f := range features() {
				given, feature, marks := x, f, x.Marks
				thing.Card(same[0], given)
				thing.Printed(same[0], given)
				thing.Parts(same[0], given, api.Struck)
				thing.Unit(same[0], given)
				thing.Left(feature, given)
				thing.Marked(same[0], feature, marks)
				if given != x || feature != f || marks != x.Marks {
					t.Errorf("what was handed in is %+v, %+v, %v, want %+v, %+v", given, feature, marks, x, f)
				}
				wantSame(t, same[0], same[1])
			}
		}
	}
}

// Rule 3: behind calls that were refused all is answered as ahead of them.
func TestRefusedIsNothing(t *testing.T) {
	b, twin := twins(t)
	for _, n := range noNumbers(len(zoo())) {
		thing.Card(b, api.Thing{Card: n})
		thing.Printed(b, api.Thing{Card: n})
		thing.Parts(b, api.Thing{Card: n}, api.Begun)
		thing.Unit(b, api.Thing{Card: n, Place: api.Table})
	}
	for _, owner := range noOwners() {
		thing.Printed(b, api.Thing{Card: 3, Owner: owner})
	}
	for _, marks := range wrongMarks() {
		thing.Marked(b, api.Feature{Power: 1}, marks)
	}
	wantSame(t, b, twin)
	for i, c := range zoo() {
		wantCard(t, b, api.Thing{Card: i + 1}, c, api.OK)
	}
}

// Rule 8: many may ask at the same time, of one book.
func TestManyGoroutinesAsk(t *testing.T) {
	b, twin := twins(t)
	x := api.Thing{Card: 8, Owner: 1, Place: api.Table}
	var all sync.WaitGroup
	for range 8 {
		all.Go(func() {
			for range 50 {
				wantCard(t, b, x, zoo()[7], api.OK)
				wantPrinted(t, b, x, printed(zoo()[7], 1), api.OK)
				wantForce(t, b, 100, 100, [4]int{4, 3, 2, 1}, 107, 115)
				wantParts(t, b, x, api.Rather, []int{0, 1, 3}, api.OK)
				wantUnit(t, b, x, true)
				c, _ := thing.Card(b, x)
				writeOver(c.Parts, api.Part{})
				places, _ := thing.Parts(b, x, api.Rather)
				writeOver(places, -7)
			}
		})
	}
	all.Wait()
	wantSame(t, b, twin)
}
