package stack_test

import (
	"slices"
	"testing"

	"gambit/api"
	"gambit/stack"
)

// What the tests use, and the chapter's examples.

// numbered tells count items that may be, of the things first, first+1 and so on, no two of them alike.
func numbered(first, count int) []api.Item {
	var l []api.Item
	for i := range count {
		n := first + i
		l = append(l, api.Item{Thing: n, Part: n % 5, Holder: n % 2, Meant: n%4 - 2})
	}
	return l
}

// of makes a stack of items by New and Push.
func of(t testing.TB, items []api.Item) *stack.Stack {
	t.Helper()
	s := stack.New()
	for _, i := range items {
		if e := s.Push(i); e != api.OK {
			t.Fatalf("Push(%v) = %v", i, e)
		}
	}
	return s
}

// turned is a list the other way round.
func turned(l []api.Item) []api.Item {
	l = slices.Clone(l)
	slices.Reverse(l)
	return l
}

// gone goes over an iterator to its end, and tells what came.
func gone(t testing.TB, over func(func(int, api.Item) bool)) []api.Item {
	t.Helper()
	var l []api.Item
	for place, i := range over {
		if place != len(l) {
			t.Fatalf("the place %d, want %d", place, len(l))
		}
		l = append(l, i)
	}
	return l
}

// holds holds all that a stack tells against a list, of which the last one is the top, and leaves the stack as it was.
func holds(t testing.TB, s *stack.Stack, want []api.Item) {
	t.Helper()
	if got := s.Items(); !slices.Equal(got, want) {
		t.Fatalf("Items() = %v, want %v", got, want)
	}
	if got := s.Len(); got != len(want) {
		t.Fatalf("Len() = %d, want %d", got, len(want))
	}
	if got := gone(t, s.Down()); !slices.Equal(got, turned(want)) {
		t.Fatalf("Down() goes over %v, want %v", got, turned(want))
	}
	top, ok := s.Top()
	if len(want) == 0 {
		if top != (api.Item{}) || ok {
			t.Fatalf("Top() = %v, %v, want none", top, ok)
		}
		return
	}
	if top != want[len(want)-1] || !ok {
		t.Fatalf("Top() = %v, %v, want %v", top, ok, want[len(want)-1])
	}
}

// allPopped takes all items off a stack.
func allPopped(s *stack.Stack) []api.Item {
	var l []api.Item
	for {
		i, ok := s.Pop()
		if !ok {
			return l
		}
		l = append(l, i)
	}
}

// fine is an item that may be, somewhere amid what may be.
func fine() api.Item { return api.Item{Thing: 7, Part: 2, Holder: 1, Meant: 5} }

// with is the fine item with some of it changed.
func with(change func(*api.Item)) api.Item {
	i := fine()
	change(&i)
	return i
}

// The chapter's examples

func TestExampleOfPush(t *testing.T) {
	s := stack.New()
	one, two := api.Item{Thing: 1}, api.Item{Thing: 2, Part: 1, Holder: 1, Meant: -2}
	if a, b := s.Push(one), s.Push(two); a != api.OK || b != api.OK {
		t.Fatalf("Push = %v, %v", a, b)
	}
	if got := s.Items(); !slices.Equal(got, []api.Item{one, two}) {
		t.Errorf("Items() = %v", got)
	}
	if got, ok := s.Pop(); got != two || !ok {
		t.Errorf("Pop() = %v, %v", got, ok)
	}
}

func TestExampleOfLay(t *testing.T) {
	s := stack.New()
	if lost, e := s.Lay([]api.Item{{Thing: 5, Part: 1}, {Thing: 5, Part: 2}}); lost != 0 || e != api.OK {
		t.Fatalf("Lay = %d, %v", lost, e)
	}
	for part := 1; part <= 2; part++ {
		if got, ok := s.Pop(); got != (api.Item{Thing: 5, Part: part}) || !ok {
			t.Errorf("Pop() = %v, %v, want the part %d", got, ok, part)
		}
	}
}

func TestExampleOfRoomForOne(t *testing.T) {
	s := of(t, numbered(1, 23))
	if lost, e := s.Lay([]api.Item{{Thing: 31}, {Thing: 32}, {Thing: 33}}); lost != 2 || e != api.OK {
		t.Fatalf("Lay = %d, %v", lost, e)
	}
	if got, ok := s.Top(); got != (api.Item{Thing: 33}) || !ok {
		t.Errorf("Top() = %v, %v", got, ok)
	}
}

func TestExampleOfItemsThatMayNotBe(t *testing.T) {
	s := stack.New()
	for _, i := range []api.Item{{}, {Thing: 1, Part: 5}, {Thing: 1, Holder: 2}, {Thing: 1, Meant: -3}} {
		if e := s.Push(i); e != api.ErrArg {
			t.Errorf("Push(%v) = %v, want ErrArg", i, e)
		}
	}
	holds(t, s, nil)
}

func TestExampleOfNoneAndOfTooMany(t *testing.T) {
	if got, ok := stack.New().Pop(); got != (api.Item{}) || ok {
		t.Errorf("Pop() of an empty stack = %v, %v", got, ok)
	}
	if s, e := stack.From(numbered(1, 25)); s != nil || e != api.ErrLong {
		t.Errorf("From of 25 items = %v, %v", s, e)
	}
}
