package gold_test

import (
	"slices"
	"testing"

	"gambit/api"
	"gambit/gold"
	"gambit/start"
)

// P13.3 (with all layers that begin, in more logs: package noting)

// filled is a log that holds so many notes, each a 7.
func filled(count int) *start.Log {
	l := start.New()
	for range count {
		l.Note(7)
	}
	return l
}

func closed(l *start.Log) *start.Log {
	l.Close()
	return l
}

func TestBegin(t *testing.T) {
	rows := []struct {
		of   string
		log  *start.Log
		want []int // what is noted
	}{
		{"a new log", start.New(), []int{113, 213, 313}},
		{"a log with notes", filled(5), []int{113, 213, 313}},
		{"a log with room for four", filled(api.MaxNotes - 4), []int{113, 213, 313}},
		{"a log with room for three", filled(api.MaxNotes - 3), []int{113, 213, 313}},
		{"a log with room for two", filled(api.MaxNotes - 2), []int{113, 213}},
		{"a log with room for one", filled(api.MaxNotes - 1), []int{113}},
		{"a full log", filled(api.MaxNotes), nil},
		{"a closed log", closed(start.New()), nil},
		{"a closed log with notes", closed(filled(5)), nil},
		{"a closed full log", closed(filled(api.MaxNotes)), nil},
		{"nil", nil, nil},
		{"what is no log", &start.Log{}, nil},
	}
	for _, r := range rows {
		want, shut := append(r.log.List(), r.want...), r.log.Closed()
		if got := gold.Begin(r.log); got != len(r.want) {
			t.Errorf("Begin of %s = %d, want %d", r.of, got, len(r.want))
		}
		if got := r.log.List(); !slices.Equal(got, want) || r.log.Closed() != shut {
			t.Errorf("behind Begin %s is %v, closed %v, want %v, closed %v", r.of, got, r.log.Closed(), want, shut)
		}
	}
}

func TestBeginTwiceNotesTwice(t *testing.T) {
	l := start.New()
	if one, two := gold.Begin(l), gold.Begin(l); one != 3 || two != 3 {
		t.Errorf("Begin twice = %d, %d, want 3, 3", one, two)
	}
	if got, want := l.List(), []int{113, 213, 313, 113, 213, 313}; !slices.Equal(got, want) {
		t.Errorf("the log is %v, want %v", got, want)
	}
}

// Nothing but Begin notes anything, and Begin notes in no other log.
func TestNothingIsNotedElsewhere(t *testing.T) {
	other := start.New()
	gold.Begin(start.New())
	gold.List()
	gold.Traits()
	gold.Marks()
	gold.Number()
	if got := other.List(); len(got) != 0 || other.Closed() {
		t.Errorf("another log is %v, closed %v, want none, open", got, other.Closed())
	}
}
