// Package start is layer 1: the log of the start: see shared/doc/01-start.md.
package start

import "gambit/api"

// Log is a log of notes. New makes it.
type Log struct {
	notes  [api.MaxNotes]int
	count  int
	closed bool
	made   bool // a Log that a caller wrote down itself is no log, and its zero value must not pass for an open one
}

// New makes a log.
func New() *Log { return &Log{made: true} }

// isLog tells a log from what New did not make, nil among it.
func (l *Log) isLog() bool { return l != nil && l.made }

// Note notes a number, and gives its place.
func (l *Log) Note(n int) int {
	if !l.isLog() || l.closed || l.count >= len(l.notes) {
		return -1
	}
	place := l.count
	l.notes[place] = n
	l.count++
	return place
}

// Close closes a log.
func (l *Log) Close() {
	if l.isLog() {
		l.closed = true
	}
}

// Closed tells whether it is closed.
func (l *Log) Closed() bool { return l.isLog() && l.closed }

// List gives all notes.
func (l *Log) List() []int {
	if !l.isLog() {
		return nil
	}
	list := make([]int, l.count)
	copy(list, l.notes[:l.count])
	return list
}

// First gives the place of a number's first note.
func (l *Log) First(n int) int {
	if !l.isLog() {
		return -1
	}
	// Behind the count stand noughts that nobody noted.
	for place := range l.count {
		if l.notes[place] == n {
			return place
		}
	}
	return -1
}
