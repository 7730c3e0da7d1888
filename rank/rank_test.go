package rank_test

import (
	"math"
	"slices"
	"strings"
	"sync"
	"testing"

	"gambit/api"
	"gambit/rank"
	"gambit/start"
)

// The five's numbers.
const (
	low = iota
	step
	mid
	high
	top
)

func wantNames() []string { return []string{"low", "step", "mid", "high", "top"} }

// of is the value and the turn of a number that must be there.
func of(t *testing.T, k int) (value, turn int) {
	t.Helper()
	value, turn, e := rank.Of(k)
	if e != api.OK {
		t.Fatalf("Of(%d): %v, want OK", k, e)
	}
	return value, turn
}

func valueOf(t *testing.T, k int) int {
	t.Helper()
	value, _ := of(t, k)
	return value
}

func turnOf(t *testing.T, k int) int {
	t.Helper()
	_, turn := of(t, k)
	return turn
}

// P2.1

func TestOfTheFive(t *testing.T) {
	for k, want := range [][2]int{{3, 1}, {2, 3}, {7, 2}, {11, 4}, {18, 5}} {
		if value, turn := of(t, k); value != want[0] || turn != want[1] {
			t.Errorf("Of(%d) = %d, %d, want %d, %d", k, value, turn, want[0], want[1])
		}
	}
}

func TestValuesAreMadeOfOneAnother(t *testing.T) {
	if got, want := valueOf(t, low), 3; got != want {
		t.Errorf("low is %d, want %d", got, want)
	}
	if got, want := valueOf(t, step), valueOf(t, low)-1; got != want {
		t.Errorf("step is %d, want %d", got, want)
	}
	if got, want := valueOf(t, mid), 2*valueOf(t, low)+1; got != want {
		t.Errorf("mid is %d, want %d", got, want)
	}
	if got, want := valueOf(t, high), valueOf(t, mid)+2*valueOf(t, step); got != want {
		t.Errorf("high is %d, want %d", got, want)
	}
	if got, want := valueOf(t, top), valueOf(t, high)+valueOf(t, mid); got != want {
		t.Errorf("top is %d, want %d", got, want)
	}
}

func TestOfNoneOfTheFive(t *testing.T) {
	for _, k := range []int{-1, 5, -5, 6, 256, 1 << 32, math.MaxInt, math.MinInt} {
		if value, turn, e := rank.Of(k); value != 0 || turn != 0 || e != api.ErrArg {
			t.Errorf("Of(%d) = %d, %d, %v, want 0, 0, ErrArg", k, value, turn, e)
		}
	}
}

// P2.2

func TestNames(t *testing.T) {
	if got := rank.Names(); !slices.Equal(got, wantNames()) {
		t.Errorf("Names() = %q, want %q", got, wantNames())
	}
}

func TestNamesAreNewMemory(t *testing.T) {
	one, two := rank.Names(), rank.Names()
	clear(one[:cap(one)])
	_ = append(one, "more")
	if !slices.Equal(two, wantNames()) {
		t.Errorf("names changed with other ones: %q", two)
	}
	if got := rank.Names(); !slices.Equal(got, wantNames()) {
		t.Errorf("Names() behind a change = %q", got)
	}
	if k, ok := rank.Find("low"); k != low || !ok {
		t.Errorf("Find(low) behind a change = %d, %v", k, ok)
	}
	if k, ok := rank.Find(""); k != 0 || ok {
		t.Errorf("Find of nothing behind a change = %d, %v", k, ok)
	}
}

func TestFindEachName(t *testing.T) {
	for want, name := range wantNames() {
		if k, ok := rank.Find(name); k != want || !ok {
			t.Errorf("Find(%q) = %d, %v, want %d, true", name, k, ok, want)
		}
	}
}

func TestFindNoName(t *testing.T) {
	for _, name := range []string{"", "Mid", "MID", "mi", "midd", " mid", "mid ", "mid\x00", "o", "lowstep", "low step", "2", "m\xffd", strings.Repeat("mid", 1000)} {
		if k, ok := rank.Find(name); k != 0 || ok {
			t.Errorf("Find(%q) = %d, %v, want 0, false", name, k, ok)
		}
	}
}

// P2.3

func TestOrder(t *testing.T) {
	want := []int{low, mid, step, high, top}
	one, two := rank.Order(), rank.Order()
	if !slices.Equal(one, want) {
		t.Errorf("Order() = %v, want %v", one, want)
	}
	clear(one[:cap(one)])
	_ = append(one, 99)
	if !slices.Equal(two, want) || !slices.Equal(rank.Order(), want) {
		t.Errorf("an order changed with another one: %v, %v", two, rank.Order())
	}
}

func TestOrderIsByRisingTurn(t *testing.T) {
	for i, k := range rank.Order() {
		if got := turnOf(t, k); got != i+1 {
			t.Errorf("the place %d has the turn %d, want %d", i, got, i+1)
		}
	}
}

func TestSum(t *testing.T) {
	sum := 0
	for k := range wantNames() {
		sum += valueOf(t, k)
	}
	if got := rank.Sum(); got != 41 || got != sum {
		t.Errorf("Sum() = %d, want 41; the values together are %d", got, sum)
	}
}

// P2.4

func TestPlaceBelowTheLeast(t *testing.T) {
	for _, x := range []int{1, 0, -1, -18, math.MinInt} {
		if k, ok := rank.Place(x); k != 0 || ok {
			t.Errorf("Place(%d) = %d, %v, want 0, false", x, k, ok)
		}
	}
}

func TestPlaceAtAndBetweenAndAbove(t *testing.T) {
	spans := []struct{ from, to, want int }{
		{2, 2, step},
		{3, 6, low},
		{7, 10, mid},
		{11, 17, high},
		{18, 100, top},
		{math.MaxInt - 1, math.MaxInt - 1, top},
		{math.MaxInt, math.MaxInt, top},
	}
	for _, s := range spans {
		for i := range s.to - s.from + 1 {
			x := s.from + i
			if k, ok := rank.Place(x); k != s.want || !ok {
				t.Errorf("Place(%d) = %d, %v, want %d, true", x, k, ok, s.want)
			}
		}
	}
}

// P2.5

func TestTurnsAreOneToFive(t *testing.T) {
	var turns []int
	for k := range wantNames() {
		turns = append(turns, turnOf(t, k))
	}
	slices.Sort(turns)
	if !slices.Equal(turns, []int{1, 2, 3, 4, 5}) {
		t.Errorf("the turns are %v", turns)
	}
}

func TestTurnsAreBehindThoseNamed(t *testing.T) {
	for k, named := range [][]int{low: {}, step: {low, mid}, mid: {low}, high: {mid, step}, top: {high, mid}} {
		greatest := 0
		for _, n := range named {
			greatest = max(greatest, turnOf(t, n))
		}
		if got := turnOf(t, k); got != greatest+1 {
			t.Errorf("the turn of %d is %d, want one more than %d", k, got, greatest)
		}
	}
}

// told is all that the package tells, as one list.
func told() []int {
	var all []int
	for k := -1; k <= 5; k++ {
		value, turn, e := rank.Of(k)
		all = append(all, value, turn, int(e))
	}
	for _, name := range append(rank.Names(), "none") {
		k, ok := rank.Find(name)
		if ok {
			k += 100
		}
		all = append(all, len(name), k)
	}
	all = append(all, rank.Order()...)
	all = append(all, rank.Sum())
	for x := -2; x < 25; x++ {
		k, ok := rank.Place(x)
		if ok {
			k += 100
		}
		all = append(all, k)
	}
	return all
}

func TestAllIsTheSameWheneverAsked(t *testing.T) {
	first := told()
	rank.Begin(start.New())
	for range 3 {
		if got := told(); !slices.Equal(got, first) {
			t.Fatalf("told %v, at first %v", got, first)
		}
	}
	l := start.New()
	rank.Begin(l)
	l.Close()
	rank.Begin(l)
	if got := told(); !slices.Equal(got, first) {
		t.Errorf("told %v behind Begin, at first %v", got, first)
	}
}

func TestAllIsTheSameForManyGoroutines(t *testing.T) {
	lists := make([][]int, 16)
	notes := make([][]int, 16)
	var all sync.WaitGroup
	for i := range lists {
		all.Go(func() {
			l := start.New()
			rank.Begin(l)
			lists[i], notes[i] = told(), l.List()
		})
	}
	all.Wait()
	for i := range lists {
		if !slices.Equal(lists[i], told()) || !slices.Equal(notes[i], []int{102}) {
			t.Errorf("goroutine %d was told %v, its log is %v", i, lists[i], notes[i])
		}
	}
}

// P2.6

func TestBeginOfNewLog(t *testing.T) {
	l := start.New()
	if got := rank.Begin(l); got != 1 {
		t.Errorf("Begin of a new log = %d, want 1", got)
	}
	if got := l.List(); !slices.Equal(got, []int{102}) || l.Closed() {
		t.Errorf("the log is %v, closed %v, want 102, open", got, l.Closed())
	}
}

func TestBeginNotesBehindAllThatWas(t *testing.T) {
	l := start.New()
	l.Note(7)
	if got := rank.Begin(l) + rank.Begin(l); got != 2 {
		t.Errorf("Begin twice = %d, want 2 in all", got)
	}
	if got := l.List(); !slices.Equal(got, []int{7, 102, 102}) {
		t.Errorf("the log is %v, want 7 102 102", got)
	}
}

func TestBeginOfClosedLog(t *testing.T) {
	l := start.New()
	l.Note(7)
	l.Close()
	if got := rank.Begin(l); got != 0 {
		t.Errorf("Begin of a closed log = %d, want 0", got)
	}
	if got := l.List(); !slices.Equal(got, []int{7}) || !l.Closed() {
		t.Errorf("the log is %v, closed %v, want 7, closed", got, l.Closed())
	}
}

func TestBeginOfFullLog(t *testing.T) {
	l := start.New()
	for range api.MaxNotes - 1 {
		l.Note(7)
	}
	if got, place := rank.Begin(l), l.First(102); got != 1 || place != api.MaxNotes-1 {
		t.Errorf("Begin of a log with room for one = %d, the place of 102 is %d", got, place)
	}
	before := l.List()
	if got := rank.Begin(l); got != 0 {
		t.Errorf("Begin of a full log = %d, want 0", got)
	}
	if got := l.List(); !slices.Equal(got, before) || l.Closed() {
		t.Errorf("a full log changed: %v, closed %v", got, l.Closed())
	}
}

func TestBeginOfNoLog(t *testing.T) {
	for name, l := range map[string]*start.Log{"nil": nil, "literal": {}} {
		if got := rank.Begin(l); got != 0 {
			t.Errorf("Begin of none (%s) = %d, want 0", name, got)
		}
		if got := l.List(); got != nil {
			t.Errorf("Begin of none (%s) left %v", name, got)
		}
	}
}

// Logs that no Begin was handed stay as they are.
func TestBeginNotesInItsLogAlone(t *testing.T) {
	one, two := start.New(), start.New()
	told()
	rank.Begin(one)
	if got := two.List(); len(got) != 0 {
		t.Errorf("another log is %v, want none", got)
	}
	if got := one.List(); !slices.Equal(got, []int{102}) {
		t.Errorf("the log is %v, want 102", got)
	}
}
