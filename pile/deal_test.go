package pile_test

import (
	"math"
	"slices"
	"testing"

	"gambit/api"
	"gambit/pile"
)

// P15.5

func TestDeal(t *testing.T) {
	for _, row := range []struct {
		list        []int
		hands, each int
		want        [][]int
		rest        []int
	}{
		{rising(5), 2, 2, [][]int{{1, 3}, {2, 4}}, []int{5}},
		{rising(4), 2, 2, [][]int{{1, 3}, {2, 4}}, nil},
		{rising(9), 2, 2, [][]int{{1, 3}, {2, 4}}, []int{5, 6, 7, 8, 9}},
		{rising(7), 3, 2, [][]int{{1, 4}, {2, 5}, {3, 6}}, []int{7}},
		{rising(7), 2, 3, [][]int{{1, 3, 5}, {2, 4, 6}}, []int{7}},
		{rising(3), 1, 0, [][]int{nil}, []int{1, 2, 3}},
		{rising(3), 1, 2, [][]int{{1, 2}}, []int{3}},
		{rising(3), 1, 3, [][]int{{1, 2, 3}}, nil},
		{rising(3), 3, 1, [][]int{{1}, {2}, {3}}, nil},
		{[]int{4, 4, 0, 4, -1}, 2, 2, [][]int{{4, 0}, {4, 4}}, []int{-1}},
		{nil, 1, 0, [][]int{nil}, nil},
		{[]int{}, 3, 0, [][]int{nil, nil, nil}, nil},
		{[]int{7}, 64, 0, make([][]int, 64), []int{7}},
	} {
		got, rest, err := pile.Deal(row.list, row.hands, row.each)
		if err != api.OK || !sameHands(got, row.want) || !slices.Equal(rest, row.rest) {
			t.Errorf("Deal(%v, %d, %d) = %v, %v, %d, want %v, %v", row.list, row.hands, row.each, got, rest, err, row.want, row.rest)
		}
	}
}

func sameHands(one, two [][]int) bool { return slices.EqualFunc(one, two, slices.Equal[[]int]) }

// wantRefused holds against Deal that it answers ErrArg and nothing else.
func wantRefused(t *testing.T, l []int, hands, each int) {
	t.Helper()
	if got, rest, err := pile.Deal(l, hands, each); err != api.ErrArg || len(got)+len(rest) != 0 {
		t.Errorf("Deal of %d, %d, %d = %v, %v, %d, want ErrArg", len(l), hands, each, got, rest, err)
	}
}

func TestDealOfHandsOutOfBounds(t *testing.T) {
	for _, hands := range []int{math.MinInt, -64, -2, -1, 0, 65, 66, 128, 1 << 8, 1 << 32, 1<<32 + 1, math.MaxInt} {
		for _, each := range []int{math.MinInt, -2, -1, 0, 1, 2, math.MaxInt} {
			for _, l := range [][]int{nil, {1}, rising(300)} {
				wantRefused(t, l, hands, each)
			}
		}
	}
}

func TestDealOfFewerThanNone(t *testing.T) {
	for _, hands := range []int{1, 2, 3, 63, 64} {
		for _, each := range []int{-1, -2, -5, math.MinInt, math.MinInt + 1, math.MinInt / 64} {
			for _, l := range [][]int{nil, {1}, rising(300)} {
				wantRefused(t, l, hands, each)
			}
		}
	}
}

func TestDealOfTooFew(t *testing.T) {
	wantRefused(t, rising(3), 2, 2)
	wantRefused(t, nil, 1, 1)
	wantRefused(t, nil, 64, 1)
	wantRefused(t, rising(63), 64, 1)
	wantRefused(t, rising(127), 64, 2)
	wantRefused(t, []int{1, 2, 3, 9, 9, 9}[:3], 2, 2) // the spare room is no part of the list
}

// Numbers so big that hands times each passes what an int holds: below 0, 0, or within the list.
func TestDealOfNumbersThatWrapRound(t *testing.T) {
	for _, row := range []struct{ hands, each, product int }{
		{2, 1 << 62, math.MinInt},
		{2, 1<<62 + 1, math.MinInt + 2},
		{2, math.MaxInt, -2},
		{4, 1 << 62, 0},
		{4, 1<<62 + 1, 4},
		{64, 1 << 58, 0},
		{64, 1<<58 + 1, 64},
		{64, 1<<58 + 2, 128},
		{64, math.MaxInt, -64},
		{3, 6148914691236517206, 2},
		{63, math.MaxInt, math.MaxInt - 62},
		{1, math.MaxInt, math.MaxInt},
	} {
		if product := row.hands * row.each; product != row.product {
			t.Fatalf("%d times %d is %d, want %d", row.hands, row.each, product, row.product)
		}
		for _, l := range [][]int{nil, {1}, rising(64), rising(128), rising(300)} {
			wantRefused(t, l, row.hands, row.each)
		}
	}
}

// wantDealt holds a deal against the places that the chapter names.
func wantDealt(t *testing.T, l []int, hands, each int) {
	t.Helper()
	got, rest, err := pile.Deal(l, hands, each)
	if err != api.OK || len(got) != hands {
		t.Fatalf("Deal of %d, %d, %d = %d hands, %d", len(l), hands, each, len(got), err)
	}
	for h, hand := range got {
		var want []int
		for place := h; len(want) < each; place += hands {
			want = append(want, l[place])
		}
		if !slices.Equal(hand, want) {
			t.Errorf("Deal of %d, %d, %d: the hand %d is %v, want %v", len(l), hands, each, h, hand, want)
		}
	}
	if !slices.Equal(rest, l[hands*each:]) {
		t.Errorf("Deal of %d, %d, %d: the rest is %v", len(l), hands, each, rest)
	}
}

// All small deals, at and about what is just enough.
func TestDealOfAllSmall(t *testing.T) {
	for _, l := range lists() {
		for hands := -1; hands <= 66; hands++ {
			for each := -1; each <= len(l)/max(hands, 1)+2; each++ {
				if hands < 1 || hands > 64 || each < 0 || hands*each > len(l) {
					wantRefused(t, l, hands, each)
				} else {
					wantDealt(t, l, hands, each)
				}
			}
		}
		if t.Failed() {
			return
		}
	}
}

// P15.6

func TestDealHasJustTheNumbers(t *testing.T) {
	for _, l := range lists() {
		for hands := 1; hands <= 64; hands++ {
			got, rest, err := pile.Deal(l, hands, len(l)/hands/2)
			all := slices.Sorted(slices.Values(slices.Concat(slices.Concat(got...), rest)))
			if err != api.OK || !slices.Equal(all, slices.Sorted(slices.Values(l))) {
				t.Errorf("Deal(%v, %d, ..) has the numbers %v, %d", l, hands, all, err)
			}
		}
	}
}
