package stack_test

import (
	"slices"
	"testing"

	"gambit/api"
	"gambit/stack"
)

// P23.4: Pop, Top, Items, Len

func TestPop(t *testing.T) {
	for count := range 25 {
		l := numbered(1, count)
		s := of(t, l)
		for left := count - 1; left >= 0; left-- {
			if i, ok := s.Pop(); i != l[left] || !ok {
				t.Fatalf("Pop() of %d = %v, %v, want %v", left+1, i, ok, l[left])
			}
			holds(t, s, l[:left])
		}
		for range 3 {
			if i, ok := s.Pop(); i != (api.Item{}) || ok {
				t.Fatalf("Pop() of none = %v, %v", i, ok)
			}
			holds(t, s, nil)
		}
		if e := s.Push(fine()); e != api.OK {
			t.Fatalf("Push = %v", e)
		}
		holds(t, s, []api.Item{fine()})
	}
}

func TestTopStays(t *testing.T) {
	for count := 1; count <= 24; count++ {
		l := numbered(1, count)
		s := of(t, l)
		for range 3 {
			if i, ok := s.Top(); i != l[count-1] || !ok {
				t.Fatalf("Top() = %v, %v, want %v", i, ok, l[count-1])
			}
		}
		holds(t, s, l)
	}
}

func TestTopOfNone(t *testing.T) {
	emptied := of(t, numbered(1, 3))
	allPopped(emptied)
	from, _ := stack.From(nil)
	for _, s := range []*stack.Stack{stack.New(), from, emptied} {
		if i, ok := s.Top(); i != (api.Item{}) || ok {
			t.Errorf("Top() = %v, %v", i, ok)
		}
		if l := s.Items(); len(l) != 0 {
			t.Errorf("Items() = %v", l)
		}
		if n := s.Len(); n != 0 {
			t.Errorf("Len() = %d", n)
		}
	}
}

// P23.5: Down

func TestDown(t *testing.T) {
	for count := range 25 {
		l := numbered(1, count)
		s := of(t, l)
		if got := gone(t, s.Down()); !slices.Equal(got, turned(l)) {
			t.Errorf("Down() goes over %v, want %v", got, turned(l))
		}
		holds(t, s, l)
	}
}

func TestDownIsStopped(t *testing.T) {
	l := numbered(1, 24)
	over := of(t, l).Down()
	for stop := 1; stop <= 24; stop++ {
		n := 0
		for place, i := range over {
			if place != n || i != l[23-n] {
				t.Fatalf("%d, %v, want %d, %v", place, i, n, l[23-n])
			}
			n++
			if n == stop {
				break
			}
		}
		if n != stop {
			t.Errorf("gone over %d, want %d", n, stop)
		}
		if got := gone(t, over); !slices.Equal(got, turned(l)) { // from the top on again
			t.Fatalf("behind a stop: %v", got)
		}
	}
}

func TestDownWithinItself(t *testing.T) {
	l := numbered(1, 5)
	over := of(t, l).Down()
	n := 0
	for place, i := range over {
		if place != n || i != l[4-n] {
			t.Fatalf("%d, %v", place, i)
		}
		if got := gone(t, over); !slices.Equal(got, turned(l)) {
			t.Fatalf("within: %v", got)
		}
		n++
	}
	if n != 5 {
		t.Errorf("gone over %d", n)
	}
}

// changes tells what may be done to a stack while it is gone over.
func changes() map[string]func(s *stack.Stack) {
	return map[string]func(s *stack.Stack){
		"Push":          func(s *stack.Stack) { s.Push(api.Item{Thing: 2000}) },
		"Pop":           func(s *stack.Stack) { s.Pop() },
		"Lay":           func(s *stack.Stack) { s.Lay(numbered(500, 4)) },
		"Lay of many":   func(s *stack.Stack) { s.Lay(numbered(500, 40)) },
		"Pop and Push":  func(s *stack.Stack) { s.Pop(); s.Push(api.Item{Thing: 2000}) },
		"all, and more": func(s *stack.Stack) { allPopped(s); s.Lay(numbered(900, 24)) },
	}
}

func TestDownIsAsItWas(t *testing.T) {
	for name, change := range changes() {
		for _, count := range []int{0, 1, 2, 20, 24} {
			l := numbered(1, count)
			s := of(t, l)
			over := s.Down()
			change(s)
			for range 2 {
				if got := gone(t, over); !slices.Equal(got, turned(l)) {
					t.Errorf("%s of %d ahead of going over: %v, want %v", name, count, got, turned(l))
				}
			}
		}
	}
}

func TestDownIsAsItWasAmid(t *testing.T) {
	for name, change := range changes() {
		for _, count := range []int{1, 2, 20, 24} {
			l := numbered(1, count)
			s := of(t, l)
			var got []api.Item
			for place, i := range s.Down() {
				if place != len(got) {
					t.Fatalf("the place %d, want %d", place, len(got))
				}
				got = append(got, i)
				change(s)
			}
			if !slices.Equal(got, turned(l)) {
				t.Errorf("%s of %d amid going over: %v, want %v", name, count, got, turned(l))
			}
			now := s.Items()
			if got := gone(t, s.Down()); !slices.Equal(got, turned(now)) { // Down asked anew goes over what is there now
				t.Errorf("%s: Down asked anew goes over %v", name, got)
			}
		}
	}
}
