package pile_test

import (
	"math"
	"slices"
	"testing"

	"gambit/pile"
)

// rising is the numbers from 1 on, so many of them.
func rising(count int) []int {
	list := make([]int, count)
	for i := range list {
		list[i] = i + 1
	}
	return list
}

// wantShuffle takes numbers and exchanges as the chapter says it.
func wantShuffle(l []int, state uint64) ([]int, uint64) {
	list := slices.Clone(l)
	for i := len(list) - 1; i >= 1; i-- {
		number, then := wantNext(state)
		state = then
		r := number % (uint64(i) + 1)
		at := list[i]
		list[i] = list[r]
		list[r] = at
	}
	return list, state
}

// wantShuffled holds Shuffle against a list and a state.
func wantShuffled(t *testing.T, l []int, state uint64, want []int, wantThen uint64) {
	t.Helper()
	if got, then := pile.Shuffle(l, state); !slices.Equal(got, want) || then != wantThen {
		t.Errorf("Shuffle(%v, %d) = %v, %d, want %v, %d", l, state, got, then, want, wantThen)
	}
}

// P15.2

func TestShuffle(t *testing.T) {
	for _, row := range []struct {
		list  []int
		state uint64
		want  []int
		then  uint64
	}{
		{rising(5), 0, []int{3, 4, 2, 5, 1}, 8709371129873690708},
		{rising(5), 1, []int{3, 2, 5, 4, 1}, 8709371129873690709},
		{[]int{8, 6}, 0, []int{8, 6}, 11400714819323198485},
		{[]int{8, 6}, 1, []int{8, 6}, 11400714819323198486},
		{[]int{8, 6}, 2, []int{6, 8}, 11400714819323198487},
		{rising(3), 0, []int{3, 1, 2}, 4354685564936845354},
		{rising(12), 7, []int{11, 12, 6, 2, 8, 5, 9, 3, 10, 7, 1, 4}, 14727398570297873646},
		{rising(12), math.MaxUint64, []int{4, 3, 5, 12, 8, 10, 6, 11, 1, 2, 7, 9}, 14727398570297873638},
		{rising(12), 7046029254386353131, []int{9, 8, 7, 6, 4, 10, 3, 5, 11, 12, 2, 1}, 3326683750974675154},
		{[]int{4, 4, -1, 0, 4, 9}, 3, []int{9, 4, -1, 4, 4, 0}, 1663341875487337580},
		{[]int{5, 5, 5}, 1 << 63, []int{5, 5, 5}, 13578057601791621162},
	} {
		wantShuffled(t, row.list, row.state, row.want, row.then)
	}
}

// Of a list of at most one number no number is taken.
func TestShuffleOfNoneAndOfOne(t *testing.T) {
	for _, state := range states() {
		wantShuffled(t, nil, state, nil, state)
		wantShuffled(t, []int{}, state, nil, state)
		wantShuffled(t, []int{7}, state, []int{7}, state)
	}
}

// lists are of many lengths, with numbers from all over an int, some of them twice.
func lists() [][]int {
	all := [][]int{
		nil, {}, {7}, {8, 6}, {6, 6}, {0, 0, 0}, {4, 5, 4}, {1, 2, 2, 1, 3},
		{math.MaxInt, math.MinInt, 0, -1}, {-3, -3, 9, math.MinInt, 9, -3},
	}
	for count := range 20 {
		all = append(all, rising(count))
	}
	return append(all, rising(64), rising(257), slices.Repeat([]int{3, 1, 2}, 21))
}

func TestShuffleOfManyListsAndStates(t *testing.T) {
	for _, l := range lists() {
		for _, state := range states() {
			want, then := wantShuffle(l, state)
			wantShuffled(t, l, state, want, then)
		}
		if t.Failed() {
			return
		}
	}
}

// Each order of four comes about.
func TestShuffleReachesAllOrders(t *testing.T) {
	seen := map[[4]int]int{}
	for state := range uint64(1000) {
		l, _ := pile.Shuffle(rising(4), state)
		seen[[4]int(l)]++
	}
	if len(seen) != 24 {
		t.Errorf("%d orders of four, want 24", len(seen))
	}
}

// P15.6

// The places go the same ways, whatever stands there.
func TestShuffleGoesByPlaces(t *testing.T) {
	for _, l := range lists() {
		for _, state := range states() {
			ways, wantThen := pile.Shuffle(rising(len(l)), state)
			want := make([]int, len(l))
			for i, from := range ways {
				want[i] = l[from-1]
			}
			wantShuffled(t, l, state, want, wantThen)
		}
	}
}

func TestShuffleChangesTheOrderAlone(t *testing.T) {
	for _, l := range lists() {
		for _, state := range states() {
			got, _ := pile.Shuffle(l, state)
			if slices.Sort(got); !slices.Equal(got, slices.Sorted(slices.Values(l))) {
				t.Errorf("Shuffle(%v, %d) has the numbers %v", l, state, got)
			}
		}
	}
}

// Each place but the first takes one number, so that the state goes on by one step each.
func TestShuffleStateGoesByLength(t *testing.T) {
	for _, l := range lists() {
		for _, state := range states() {
			want := state + step*uint64(max(len(l)-1, 0))
			if _, then := pile.Shuffle(l, state); then != want {
				t.Errorf("Shuffle of %d, %d: the state is %d, want %d", len(l), state, then, want)
			}
		}
	}
}

// One list behind the other, by the state that the first leaves, as a game shuffles two decks.
func TestShuffleBehindShuffle(t *testing.T) {
	_, state := pile.Shuffle(rising(12), 7)
	want, then := wantShuffle(rising(12), 14727398570297873646)
	wantShuffled(t, rising(12), state, want, then)
}

func TestShuffleOfVeryMany(t *testing.T) {
	count := 1 << 18
	got, then := pile.Shuffle(rising(count), 5)
	if want := 5 + step*uint64(count-1); then != want {
		t.Errorf("the state is %d, want %d", then, want)
	}
	if slices.IsSorted(got) {
		t.Error("the order is as it was")
	}
	if slices.Sort(got); !slices.Equal(got, rising(count)) {
		t.Error("there are other numbers than ahead")
	}
}
