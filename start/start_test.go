package start_test

import (
	"math"
	"slices"
	"sync"
	"testing"

	"gambit/api"
	"gambit/start"
)

// noted is a new log with these notes.
func noted(t *testing.T, numbers ...int) *start.Log {
	t.Helper()
	l := start.New()
	for i, n := range numbers {
		if got := l.Note(n); got != i {
			t.Fatalf("Note(%d) = %d, want %d", n, got, i)
		}
	}
	return l
}

// wantLog holds a log against what it should tell.
func wantLog(t *testing.T, l *start.Log, closed bool, numbers ...int) {
	t.Helper()
	if got := l.List(); !slices.Equal(got, numbers) {
		t.Errorf("List() = %v, want %v", got, numbers)
	}
	if got := l.Closed(); got != closed {
		t.Errorf("Closed() = %v, want %v", got, closed)
	}
	for _, n := range numbers {
		if got, want := l.First(n), slices.Index(numbers, n); got != want {
			t.Errorf("First(%d) = %d, want %d", n, got, want)
		}
	}
}

// rising is the numbers from 0 on, so many of them.
func rising(count int) []int {
	numbers := make([]int, count)
	for i := range numbers {
		numbers[i] = i
	}
	return numbers
}

// P1.1

func TestNewIsOpenAndEmpty(t *testing.T) {
	l := start.New()
	if l == nil {
		t.Fatal("New() = nil")
	}
	wantLog(t, l, false)
	if got := l.First(0); got != -1 {
		t.Errorf("First(0) of an empty log = %d, want -1", got)
	}
	if start.New() == l {
		t.Error("New answered the same log twice")
	}
}

func TestMaxNotes(t *testing.T) {
	if api.MaxNotes != 256 {
		t.Fatalf("MaxNotes = %d, want 256", api.MaxNotes)
	}
	l := noted(t, rising(256)...)
	wantLog(t, l, false, rising(256)...)
	for _, n := range []int{256, 0, -1} {
		if got := l.Note(n); got != -1 {
			t.Errorf("Note(%d) of a full log = %d, want -1", n, got)
		}
	}
	wantLog(t, l, false, rising(256)...)
	if got := l.First(256); got != -1 {
		t.Errorf("First of a refused note = %d, want -1", got)
	}
}

// P1.2

func TestNotePlaces(t *testing.T) {
	l := noted(t, 7, -3, 7)
	wantLog(t, l, false, 7, -3, 7)
}

func TestNoteTakesAnyWholeNumber(t *testing.T) {
	numbers := []int{0, math.MaxInt, math.MinInt, -1, 1, 0}
	wantLog(t, noted(t, numbers...), false, numbers...)
}

func TestNoteOfClosedIsRefused(t *testing.T) {
	for _, numbers := range [][]int{{}, {7, -3, 7}, rising(255), rising(256)} {
		l := noted(t, numbers...)
		l.Close()
		wantLog(t, l, true, numbers...)
		if got := l.Note(1000); got != -1 {
			t.Errorf("Note of a closed log of %d = %d, want -1", len(numbers), got)
		}
		if got := l.First(1000); got != -1 {
			t.Errorf("First of a refused note = %d, want -1", got)
		}
		wantLog(t, l, true, numbers...)
	}
}

func TestCloseIsForGood(t *testing.T) {
	l := noted(t, 5)
	for range 3 {
		l.Close()
		wantLog(t, l, true, 5)
		if got := l.Note(6); got != -1 {
			t.Errorf("Note behind Close = %d, want -1", got)
		}
	}
	wantLog(t, l, true, 5)
}

func TestFullLogIsOpenTillItIsClosed(t *testing.T) {
	l := noted(t, rising(256)...)
	l.Note(256)
	if l.Closed() {
		t.Error("a full log is closed by itself")
	}
	l.Close()
	wantLog(t, l, true, rising(256)...)
}

// P1.3

func TestListIsNewMemory(t *testing.T) {
	l := noted(t, 7, -3, 7)
	one, two := l.List(), l.List()
	for i := range one {
		one[i] = 99
	}
	if !slices.Equal(two, []int{7, -3, 7}) {
		t.Errorf("a list changed with another one: %v", two)
	}
	wantLog(t, l, false, 7, -3, 7)

	l.Note(8)
	if !slices.Equal(two, []int{7, -3, 7}) {
		t.Errorf("a list changed with its log: %v", two)
	}
}

// The spare room of a list is new memory too: what is written there reaches neither the log nor another list.
func TestListSpareRoomIsNewMemory(t *testing.T) {
	l := noted(t, 7, -3, 7)
	one, two := l.List(), l.List()
	for _, list := range [][]int{one, two} {
		spare := list[len(list):cap(list)]
		for i, n := range spare {
			if n != 0 {
				t.Errorf("spare room holds %d", n)
			}
			spare[i] = 99
		}
		_ = append(list, 99)
	}
	if got := l.Note(8); got != 3 {
		t.Errorf("Note = %d, want 3", got)
	}
	wantLog(t, l, false, 7, -3, 7, 8)

	fresh := l.List()
	_ = append(two, 55)
	if !slices.Equal(fresh, []int{7, -3, 7, 8}) || !slices.Equal(one, []int{7, -3, 7}) {
		t.Errorf("lists share room: %v, %v", fresh, one)
	}
}

func TestListOfEmptyAndOfFull(t *testing.T) {
	l := start.New()
	_ = append(l.List(), 99)
	wantLog(t, l, false)
	if got := l.Note(1); got != 0 {
		t.Errorf("Note = %d, want 0", got)
	}
	wantLog(t, l, false, 1)

	full := noted(t, rising(256)...)
	_ = append(full.List(), 99)
	full.List()[255] = 99
	wantLog(t, full, false, rising(256)...)
}

func TestFirst(t *testing.T) {
	l := noted(t, 4, 0, 9, 4, 9, 9, -4)
	for n, want := range map[int]int{4: 0, 0: 1, 9: 2, -4: 6, 3: -1, -9: -1, 1: -1, math.MinInt: -1} {
		if got := l.First(n); got != want {
			t.Errorf("First(%d) = %d, want %d", n, got, want)
		}
	}
}

// A nought that was not noted is not found in the room that a log has left.
func TestFirstOfNoughtNotNoted(t *testing.T) {
	l := noted(t, 7, -3)
	if got := l.First(0); got != -1 {
		t.Errorf("First(0) = %d, want -1", got)
	}
	l.Note(0)
	if got := l.First(0); got != 2 {
		t.Errorf("First(0) = %d, want 2", got)
	}
}

func TestFirstAtTheEnd(t *testing.T) {
	l := noted(t, rising(256)...)
	if got := l.First(255); got != 255 {
		t.Errorf("First(255) = %d, want 255", got)
	}
	same := noted(t, make([]int, 256)...)
	if got := same.First(0); got != 0 {
		t.Errorf("First(0) of 256 noughts = %d, want 0", got)
	}
}

// P1.5

func TestLogsKnowNothingOfEachOther(t *testing.T) {
	one, two := start.New(), start.New()
	one.Note(1)
	two.Note(2)
	one.Note(3)
	one.Close()
	wantLog(t, one, true, 1, 3)
	wantLog(t, two, false, 2)
	if got := two.First(1); got != -1 {
		t.Errorf("First(1) of the other log = %d, want -1", got)
	}
	if got := two.Note(4); got != 1 {
		t.Errorf("Note of the other log = %d, want 1", got)
	}
	wantLog(t, start.New(), false)
}

func TestListGrowsAtItsEndAlone(t *testing.T) {
	l := start.New()
	var before []int
	for i := range 300 {
		l.Note(i * 37 % 11)
		now := l.List()
		if len(now) < len(before) || !slices.Equal(now[:len(before)], before) {
			t.Fatalf("behind note %d: %v does not begin with %v", i, now, before)
		}
		if want := min(i+1, 256); len(now) != want {
			t.Fatalf("behind note %d: %d notes, want %d", i, len(now), want)
		}
		before = now
	}
}

// Rule 5

func TestNoLog(t *testing.T) {
	var none *start.Log
	for name, l := range map[string]*start.Log{"nil": none, "literal": {}, "new": new(start.Log)} {
		for _, when := range []string{"at first", "behind Close", "behind Close again"} {
			for _, n := range []int{0, 1, -1} {
				if got := l.Note(n); got != -1 {
					t.Errorf("%s, %s: Note(%d) = %d, want -1", name, when, n, got)
				}
				if got := l.First(n); got != -1 {
					t.Errorf("%s, %s: First(%d) = %d, want -1", name, when, n, got)
				}
			}
			if got := l.List(); got != nil {
				t.Errorf("%s, %s: List() = %v, want none", name, when, got)
			}
			if l.Closed() {
				t.Errorf("%s, %s: Closed() = true", name, when)
			}
			l.Close()
		}
	}
}

// Rule 8

func TestLogsOfManyGoroutines(t *testing.T) {
	lists := make([][]int, 16)
	var all sync.WaitGroup
	for i := range lists {
		all.Go(func() {
			l := start.New()
			for n := range 300 {
				l.Note(n * n)
			}
			l.Close()
			lists[i] = l.List()
		})
	}
	all.Wait()
	for i, list := range lists {
		if len(list) != 256 || !slices.Equal(list, lists[0]) {
			t.Errorf("log %d: %v", i, list)
		}
	}
}
