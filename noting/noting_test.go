package noting_test

import (
	"math"
	"slices"
	"testing"

	"gambit/air"
	"gambit/api"
	"gambit/earth"
	"gambit/fire"
	"gambit/gold"
	"gambit/noting"
	"gambit/rank"
	"gambit/start"
	"gambit/suit"
	"gambit/trait"
	"gambit/void"
	"gambit/water"
)

// begun is a layer that notes itself, by whatever function, and the notes that the document gives it.
type begun struct {
	name  string
	begin func(*start.Log) int
	notes []int
}

// layers are all that note themselves and leave the log open (whole, which closes it, has tests of its own): P2.6, P3.5, P4.5, P8.2, P9.4, P10.3, P11.2, P12.4, P13.3, and In by itself.
func layers() []begun {
	in := func(layer, times int) func(*start.Log) int {
		return func(l *start.Log) int { return noting.In(l, layer, times) }
	}
	return []begun{
		{"In never", in(7, 0), nil},
		{"In five times", in(7, 5), []int{107, 207, 307, 407, 507}},
		{"rank", rank.Begin, []int{102}},
		{"suit", suit.Begin, []int{103, 203}},
		{"trait", trait.Begin, []int{104, 204}},
		{"air", air.Begin, []int{108, 208, 308}},
		{"earth", earth.Begin, []int{109, 209, 309}},
		{"fire", fire.Begin, []int{110, 210, 310}},
		{"water", water.Begin, []int{111, 211, 311}},
		{"void", void.Begin, []int{112, 212, 312}},
		{"gold", gold.Begin, []int{113, 213, 313}},
	}
}

// withNotes is a log that holds so many notes, each its own place.
func withNotes(count int) *start.Log {
	l := start.New()
	for place := range count {
		l.Note(place)
	}
	return l
}

func TestBeginOfNewLog(t *testing.T) {
	for _, b := range layers() {
		l := start.New()
		if got := b.begin(l); got != len(b.notes) {
			t.Errorf("%s: Begin of a new log = %d, want %d", b.name, got, len(b.notes))
		}
		if got := l.List(); !slices.Equal(got, b.notes) || l.Closed() {
			t.Errorf("%s: the log is %v, closed %v, want %v, open", b.name, got, l.Closed(), b.notes)
		}
	}
}

func TestBeginTwiceNotesTwice(t *testing.T) {
	for _, b := range layers() {
		l := withNotes(3)
		want := slices.Concat(l.List(), b.notes, b.notes)
		if one, two := b.begin(l), b.begin(l); one != len(b.notes) || two != len(b.notes) {
			t.Errorf("%s: Begin twice = %d, %d, want %d each", b.name, one, two, len(b.notes))
		}
		if got := l.List(); !slices.Equal(got, want) {
			t.Errorf("%s: the log is %v, want %v", b.name, got, want)
		}
	}
}

func TestBeginOfClosedLog(t *testing.T) {
	for _, b := range layers() {
		for _, count := range []int{0, 1, api.MaxNotes} {
			l := withNotes(count)
			l.Close()
			before := l.List()
			if got := b.begin(l); got != 0 {
				t.Errorf("%s: Begin of a closed log of %d = %d, want 0", b.name, count, got)
			}
			if got := l.List(); !slices.Equal(got, before) || !l.Closed() {
				t.Errorf("%s: a closed log of %d is now %v, closed %v", b.name, count, got, l.Closed())
			}
		}
	}
}

// The first notes are taken as long as there is room, the others are not.
func TestBeginOfLogWithLittleRoom(t *testing.T) {
	for _, b := range layers() {
		for room := range len(b.notes) + 2 {
			l := withNotes(api.MaxNotes - room)
			taken := min(room, len(b.notes))
			want := slices.Concat(l.List(), b.notes[:taken])
			if got := b.begin(l); got != taken {
				t.Errorf("%s: Begin of a log with room for %d = %d, want %d", b.name, room, got, taken)
			}
			if got := l.List(); !slices.Equal(got, want) || l.Closed() {
				t.Errorf("%s: room for %d: the log is %v, closed %v, want %v, open", b.name, room, got, l.Closed(), want)
			}
		}
	}
}

func TestBeginOfNoLog(t *testing.T) {
	for _, b := range layers() {
		for name, l := range map[string]*start.Log{"nil": nil, "literal": {}} {
			if got := b.begin(l); got != 0 {
				t.Errorf("%s: Begin of none (%s) = %d, want 0", b.name, name, got)
			}
			if got := l.List(); len(got) != 0 {
				t.Errorf("%s: Begin of none (%s) left %v", b.name, name, got)
			}
		}
	}
}

func TestBeginNotesInItsLogAlone(t *testing.T) {
	for _, b := range layers() {
		other := withNotes(2)
		before := other.List()
		b.begin(start.New())
		if got := other.List(); !slices.Equal(got, before) || other.Closed() {
			t.Errorf("%s: another log is %v, want %v", b.name, got, before)
		}
	}
}

func TestInFewerTimesThanNone(t *testing.T) {
	for _, times := range []int{-1, math.MinInt} {
		l := start.New()
		if got := noting.In(l, 7, times); got != 0 || len(l.List()) != 0 {
			t.Errorf("In of %d times = %d, the log is %v, want none", times, got, l.List())
		}
	}
}

// A log that is full refuses, so that more times than it has room for end.
func TestInMoreTimesThanRoom(t *testing.T) {
	l := start.New()
	if got := noting.In(l, 7, math.MaxInt); got != api.MaxNotes {
		t.Errorf("In of very many times = %d, want %d", got, api.MaxNotes)
	}
}
