package pile_test

import (
	"math"
	"slices"
	"testing"

	"gambit/api"
	"gambit/pile"
)

// P15.4

func TestCut(t *testing.T) {
	for _, row := range []struct {
		list     []int
		n        int
		one, two []int
		err      api.Errno
	}{
		{[]int{1, 2, 3}, math.MinInt, nil, nil, api.ErrArg},
		{[]int{1, 2, 3}, -1, nil, nil, api.ErrArg},
		{[]int{1, 2, 3}, 0, nil, []int{1, 2, 3}, api.OK},
		{[]int{1, 2, 3}, 1, []int{1}, []int{2, 3}, api.OK},
		{[]int{1, 2, 3}, 2, []int{1, 2}, []int{3}, api.OK},
		{[]int{1, 2, 3}, 3, []int{1, 2, 3}, nil, api.OK},
		{[]int{1, 2, 3}, 4, nil, nil, api.ErrArg},
		{[]int{1, 2, 3}, math.MaxInt, nil, nil, api.ErrArg},
		{nil, -1, nil, nil, api.ErrArg},
		{nil, 0, nil, nil, api.OK},
		{nil, 1, nil, nil, api.ErrArg},
		{[]int{}, 0, nil, nil, api.OK},
		{[]int{7}, 0, nil, []int{7}, api.OK},
		{[]int{7}, 1, []int{7}, nil, api.OK},
		{[]int{7}, 2, nil, nil, api.ErrArg},
		{[]int{5, 5, 5}, 1, []int{5}, []int{5, 5}, api.OK},
	} {
		one, two, err := pile.Cut(row.list, row.n)
		if !slices.Equal(one, row.one) || !slices.Equal(two, row.two) || err != row.err {
			t.Errorf("Cut(%v, %d) = %v, %v, %d, want %v, %v, %d", row.list, row.n, one, two, err, row.one, row.two, row.err)
		}
	}
}

// A list with spare room is as long as it is, not as the room is.
func TestCutWithinTheSpareRoom(t *testing.T) {
	room := []int{1, 2, 3, 9, 9}
	for _, n := range []int{4, 5} {
		if one, two, err := pile.Cut(room[:3], n); err != api.ErrArg || len(one)+len(two) != 0 {
			t.Errorf("Cut of three at %d = %v, %v, %d, want ErrArg", n, one, two, err)
		}
	}
}

// P15.6

func TestCutListsAreTheList(t *testing.T) {
	for _, l := range lists() {
		for n := -3; n <= len(l)+3; n++ {
			one, two, err := pile.Cut(l, n)
			if fine := n >= 0 && n <= len(l); !fine {
				if err != api.ErrArg || len(one)+len(two) != 0 {
					t.Errorf("Cut(%v, %d) = %v, %v, %d, want ErrArg", l, n, one, two, err)
				}
				continue
			}
			if err != api.OK || len(one) != n || !slices.Equal(slices.Concat(one, two), l) {
				t.Errorf("Cut(%v, %d) = %v, %v, %d", l, n, one, two, err)
			}
		}
	}
}
