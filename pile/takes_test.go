package pile_test

import (
	"math"
	"slices"
	"testing"

	"gambit/pile"
)

// P15.3, Draw

func TestDraw(t *testing.T) {
	for _, row := range []struct {
		list  []int
		first int
		rest  []int
		ok    bool
	}{
		{nil, 0, nil, false},
		{[]int{}, 0, nil, false},
		{[]int{7}, 7, nil, true},
		{[]int{0}, 0, nil, true},
		{[]int{4, 5, 6}, 4, []int{5, 6}, true},
		{[]int{4, 4, 5, 4}, 4, []int{4, 5, 4}, true},
		{[]int{-1, math.MaxInt, math.MinInt}, -1, []int{math.MaxInt, math.MinInt}, true},
	} {
		first, rest, ok := pile.Draw(row.list)
		if first != row.first || !slices.Equal(rest, row.rest) || ok != row.ok {
			t.Errorf("Draw(%v) = %d, %v, %v, want %d, %v, %v", row.list, first, rest, ok, row.first, row.rest, row.ok)
		}
	}
}

func TestDrawOfManyLists(t *testing.T) {
	for _, l := range lists() {
		first, rest, ok := pile.Draw(l)
		if ok != (len(l) > 0) {
			t.Fatalf("Draw(%v) = %v", l, ok)
		}
		if ok && !slices.Equal(slices.Insert(rest, 0, first), l) {
			t.Errorf("Draw(%v) = %d, ..", l, first)
		}
	}
}

// P15.3, Under

func TestUnder(t *testing.T) {
	for _, row := range []struct {
		list []int
		x    int
		want []int
	}{
		{nil, 7, []int{7}},
		{[]int{}, 0, []int{0}},
		{[]int{7}, 8, []int{7, 8}},
		{[]int{7}, 7, []int{7, 7}},
		{[]int{4, 5, 6}, -1, []int{4, 5, 6, -1}},
		{[]int{4, 5, 4}, 4, []int{4, 5, 4, 4}},
		{[]int{math.MinInt, 0}, math.MaxInt, []int{math.MinInt, 0, math.MaxInt}},
	} {
		if got := pile.Under(row.list, row.x); !slices.Equal(got, row.want) {
			t.Errorf("Under(%v, %d) = %v, want %v", row.list, row.x, got, row.want)
		}
	}
}

// P15.3, Without

func TestWithout(t *testing.T) {
	for _, row := range []struct {
		list []int
		x    int
		want []int
		ok   bool
	}{
		{nil, 0, nil, false},
		{[]int{}, 7, nil, false},
		{[]int{7}, 7, nil, true},
		{[]int{7}, 0, nil, false},
		{[]int{4, 5}, 6, nil, false},
		{[]int{4, 5}, -4, nil, false},
		{[]int{4, 5, 4}, 4, []int{5, 4}, true},
		{[]int{5, 4, 6, 4, 7}, 4, []int{5, 6, 4, 7}, true},
		{[]int{4, 4}, 4, []int{4}, true},
		{[]int{4, 5, 6}, 4, []int{5, 6}, true},
		{[]int{4, 5, 6}, 5, []int{4, 6}, true},
		{[]int{4, 5, 6}, 6, []int{4, 5}, true},
		{[]int{0, math.MinInt, math.MaxInt}, math.MinInt, []int{0, math.MaxInt}, true},
	} {
		got, ok := pile.Without(row.list, row.x)
		if !slices.Equal(got, row.want) || ok != row.ok {
			t.Errorf("Without(%v, %d) = %v, %v, want %v, %v", row.list, row.x, got, ok, row.want, row.ok)
		}
	}
}

// P15.6

// count is how often a number stands in a list.
func count(l []int, x int) int {
	n := 0
	for _, y := range l {
		if x == y {
			n++
		}
	}
	return n
}

// Without takes off just one, and the first: what is left of as many calls as there are is nothing of it.
func TestWithoutTakesOffJustOne(t *testing.T) {
	for _, l := range lists() {
		for _, x := range append([]int{0, -1, math.MaxInt}, l...) {
			got, ok := pile.Without(l, x)
			place := slices.Index(l, x)
			if ok != (place >= 0) {
				t.Fatalf("Without(%v, %d) = %v", l, x, ok)
			}
			if ok && (count(got, x) != count(l, x)-1 || !slices.Equal(slices.Insert(got, place, x), l)) {
				t.Errorf("Without(%v, %d) = %v", l, x, got)
			}
		}
	}
}

func TestWithoutTillThereIsNone(t *testing.T) {
	l := []int{4, 5, 4, 6, 4}
	for _, want := range [][]int{{5, 4, 6, 4}, {5, 6, 4}, {5, 6}} {
		next, ok := pile.Without(l, 4)
		if !ok || !slices.Equal(next, want) {
			t.Fatalf("Without(%v, 4) = %v, %v, want %v", l, next, ok, want)
		}
		l = next
	}
	if next, ok := pile.Without(l, 4); ok || len(next) != 0 {
		t.Errorf("Without(%v, 4) = %v, %v, want none", l, next, ok)
	}
}

// What Draw takes off, put under the others, is at last; as often as there are numbers, the list is as it was.
func TestDrawAndUnder(t *testing.T) {
	for _, l := range lists() {
		round := l
		for place := range l {
			x, rest, ok := pile.Draw(round)
			round = pile.Under(rest, x)
			if !ok || x != l[place] || round[len(round)-1] != x || !slices.Equal(round, append(slices.Clone(l[place+1:]), l[:place+1]...)) {
				t.Fatalf("the draw %d of %v: %d, %v; %v", place, l, x, ok, round)
			}
		}
		if !slices.Equal(round, l) {
			t.Errorf("%v drawn and put under all round is %v", l, round)
		}
	}
}

// What is put under one behind the other is drawn so, too.
func TestUnderAndDraw(t *testing.T) {
	for _, l := range lists() {
		var all []int
		for _, x := range l {
			all = pile.Under(all, x)
		}
		for _, want := range l {
			x, rest, ok := pile.Draw(all)
			if x != want || !ok {
				t.Fatalf("Draw(%v) = %d, %v, want %d", all, x, ok, want)
			}
			all = rest
		}
		if len(all) != 0 {
			t.Errorf("%v is left of %v", all, l)
		}
	}
}
