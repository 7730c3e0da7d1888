package whole_test

import (
	"slices"
	"strconv"
	"testing"

	"gambit/api"
	"gambit/gold"
	"gambit/rank"
	"gambit/start"
	"gambit/whole"
)

// wantLog is the document's log of the start, written out.
func wantLog() []int {
	return []int{
		102, 103, 203, 104, 204,
		108, 208, 308, 109, 209, 309, 110, 210, 310,
		111, 211, 311, 112, 212, 312, 113, 213, 313,
		114,
	}
}

// P14.1, P14.5, Log

func TestLog(t *testing.T) {
	if got := whole.Log(); !slices.Equal(got, wantLog()) {
		t.Errorf("Log() = %v, want %v", got, wantLog())
	}
}

func TestLogIsNewMemory(t *testing.T) {
	before, spoilt := whole.Log(), whole.Log()
	room := spoilt[:cap(spoilt)]
	for i := range room {
		room[i] = -7
	}
	_ = append(spoilt, 7)
	if !slices.Equal(before, wantLog()) || !slices.Equal(whole.Log(), wantLog()) {
		t.Errorf("logs changed with another one: %v, %v", before, whole.Log())
	}
}

func TestLogBehindOtherCalls(t *testing.T) {
	l := start.New()
	calls := []struct {
		name string
		call func()
	}{
		{"Book", func() { whole.Book().Seal() }},
		{"Again", func() { whole.Again([]int{5, 4, 3, 2, 1, 0}) }},
		{"Again of none", func() { whole.Again(nil) }},
		{"Numbers", func() { clear(whole.Numbers()) }},
		{"Tokens", func() { clear(whole.Tokens()) }},
		{"Log", func() { clear(whole.Log()) }},
		{"Begin", func() { whole.Begin(l) }},
		{"Begin of the same", func() { whole.Begin(l) }},
		{"Begin of a full", func() { whole.Begin(filled(api.MaxNotes)) }},
		{"Begin of nil", func() { whole.Begin(nil) }},
		{"Begin of no log", func() { whole.Begin(&start.Log{}) }},
		{"rank's Begin", func() { rank.Begin(start.New()) }},
		{"gold's Begin", func() { gold.Begin(start.New()) }},
		{"a note of 114", func() { start.New().Note(114) }},
		{"a log that is shut", func() { closed(start.New()).Note(1) }},
	}
	for _, c := range calls {
		for range 20 {
			c.call()
			if got := whole.Log(); !slices.Equal(got, wantLog()) {
				t.Fatalf("Log() behind %s = %v, want %v", c.name, got, wantLog())
			}
		}
	}
}

// P14.4

// filled is a log that holds so many notes, each its own place.
func filled(count int) *start.Log {
	l := start.New()
	for place := range count {
		l.Note(place)
	}
	return l
}

func closed(l *start.Log) *start.Log {
	l.Close()
	return l
}

// wantBegun begins all in a log, and holds against it how many notes it takes, which, and that it is closed then.
func wantBegun(t *testing.T, of string, l *start.Log, taken int) {
	t.Helper()
	want := slices.Concat(l.List(), wantLog()[:taken])
	if got := whole.Begin(l); got != taken {
		t.Errorf("Begin of %s = %d, want %d", of, got, taken)
	}
	if got := l.List(); !slices.Equal(got, want) || !l.Closed() {
		t.Errorf("behind Begin %s is %v, closed %v, want %v, true", of, got, l.Closed(), want)
	}
	if place := l.Note(114); place != -1 {
		t.Errorf("%s: noting 114 once more = %d, want -1", of, place)
	}
}

func TestBeginOfNewLogAndAgain(t *testing.T) {
	l := start.New()
	wantBegun(t, "a new log", l, 24)
	wantBegun(t, "the same again", l, 0)
	wantBegun(t, "the same a third time", l, 0)
	if got := l.List(); !slices.Equal(got, wantLog()) {
		t.Errorf("the log is %v, want %v", got, wantLog())
	}
	wantBegun(t, "another new log", start.New(), 24)
}

func TestBeginOfLogWithNotes(t *testing.T) {
	for _, count := range []int{1, 2, 24, 100} {
		wantBegun(t, "a log with "+strconv.Itoa(count)+" notes", filled(count), 24)
	}
}

// Packages that began ahead are noted once more.
func TestBeginBehindPackages(t *testing.T) {
	l := start.New()
	gold.Begin(l)
	rank.Begin(l)
	wantBegun(t, "a log in which two began", l, 24)
}

// The first notes are taken as long as there is room, and the log is closed, full or not.
func TestBeginOfLogWithLittleRoom(t *testing.T) {
	for room := range 30 {
		of := "a log with room for " + strconv.Itoa(room)
		wantBegun(t, of, filled(api.MaxNotes-room), min(room, 24))
	}
}

func TestBeginOfClosedLog(t *testing.T) {
	for _, count := range []int{0, 1, 24, api.MaxNotes - 1, api.MaxNotes} {
		wantBegun(t, "a closed log of "+strconv.Itoa(count), closed(filled(count)), 0)
	}
}

func TestBeginOfNoLog(t *testing.T) {
	for name, l := range map[string]*start.Log{"nil": nil, "a literal": {}, "new's": new(start.Log)} {
		for range 2 {
			if got := whole.Begin(l); got != 0 {
				t.Errorf("Begin of no log (%s) = %d, want 0", name, got)
			}
			if len(l.List()) != 0 || l.Closed() {
				t.Errorf("Begin of no log (%s) left %v, closed %v", name, l.List(), l.Closed())
			}
		}
	}
}

// Nothing but Begin notes anything, and Begin notes in, and closes, its own log alone.
func TestNothingIsNotedElsewhere(t *testing.T) {
	other := filled(2)
	whole.Begin(start.New())
	whole.Begin(nil)
	whole.Book()
	whole.Again([]int{1, 0, 2, 3, 4, 5})
	whole.Log()
	whole.Numbers()
	whole.Tokens()
	if got := other.List(); !slices.Equal(got, []int{0, 1}) || other.Closed() {
		t.Errorf("another log is %v, closed %v, want 0 1, open", got, other.Closed())
	}
}
