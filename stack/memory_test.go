package stack_test

import (
	"slices"
	"sync"
	"testing"

	"gambit/api"
	"gambit/stack"
)

// Rules 3, 4 and 8: what was handed in stays, and may be written over; each answer is new memory; two stacks know nothing of each other.

// withRoom is a list with spare room in which something stands.
func withRoom(l []api.Item, behind api.Item) []api.Item {
	return append(slices.Clone(l), slices.Repeat([]api.Item{behind}, 8)...)[:len(l)]
}

// roomOf is a list with its spare room.
func roomOf(l []api.Item) []api.Item { return l[:cap(l)] }

// writeOver writes an item that may not be into a list, its spare room too.
func writeOver(l []api.Item) {
	for i := range roomOf(l) {
		roomOf(l)[i] = api.Item{Thing: -9, Part: 77, Holder: 5, Meant: -30}
	}
}

func TestWhatIsHandedInStays(t *testing.T) {
	for _, behind := range []api.Item{fine(), {}} {
		for _, count := range []int{0, 1, 5, 23, 24, 25, 40} {
			list := withRoom(numbered(7, count), behind)
			before := slices.Clone(roomOf(list))
			s, _ := stack.From(list)
			if s == nil { // of more than 24
				s = stack.New()
			}
			s.Lay(list)
			s.Pop()
			s.Push(fine())
			for range s.Down() {
			}
			allPopped(s)
			if !slices.Equal(roomOf(list), before) {
				t.Errorf("the list of %d items, or its spare room, was changed", count)
			}
		}
	}
}

func TestWhatWasHandedInMayBeWrittenOver(t *testing.T) {
	for _, count := range []int{1, 2, 11, 12, 24} {
		list := withRoom(numbered(7, count), fine())
		s, _ := stack.From(list)
		writeOver(list)
		holds(t, s, numbered(7, count))

		s, list = stack.New(), withRoom(numbered(7, count), fine())
		s.Lay(list)
		writeOver(list)
		holds(t, s, turned(numbered(7, count)))
	}
}

func TestItemsIsNewMemory(t *testing.T) {
	for _, count := range []int{0, 1, 3, 12, 23, 24} {
		l := numbered(1, count)
		s := of(t, l)
		one, two, over := s.Items(), s.Items(), s.Down()
		writeOver(one)
		if !slices.Equal(two, l) {
			t.Errorf("another list is %v, want %v", two, l)
		}
		if got := gone(t, over); !slices.Equal(got, turned(l)) {
			t.Errorf("gone over %v, want %v", got, turned(l))
		}
		holds(t, s, l)
		for range 8 { // into its spare room, were it the stack's
			one = append(one, api.Item{Thing: -9})
		}
		if s.Push(fine()) == api.OK {
			s.Pop()
		}
		holds(t, s, l)
		if got := s.Items(); len(got) > 0 && &got[0] == &one[0] {
			t.Error("the same memory twice")
		}
	}
}

// Later calls are not to be seen in what was told ahead of them.
func TestItemsStay(t *testing.T) {
	l := numbered(1, 10)
	s := of(t, l)
	told := s.Items()
	allPopped(s)
	s.Lay(numbered(600, 24))
	if !slices.Equal(told, l) {
		t.Errorf("Items() told ahead is %v now", told)
	}
}

func TestTwoStacks(t *testing.T) {
	l := numbered(1, 12)
	a, _ := stack.From(l)
	b, _ := stack.From(l)
	c := stack.New()
	a.Pop()
	a.Lay(numbered(700, 3))
	holds(t, b, l)
	holds(t, c, nil)
	allPopped(b)
	c.Push(fine())
	holds(t, a, append(numbered(1, 11), turned(numbered(700, 3))...))
	holds(t, b, nil)
	holds(t, c, []api.Item{fine()})
}

func TestGoroutines(t *testing.T) {
	l := numbered(1, 20)
	shared := of(t, l)
	over := shared.Down()
	want := append(numbered(40, 3), turned(l)...)
	var all sync.WaitGroup
	for range 8 {
		all.Add(1)
		go func() {
			defer all.Done()
			for range 50 {
				if got := gone(t, over); !slices.Equal(got, turned(l)) || shared.Len() != 20 {
					t.Errorf("gone over %v", got)
				}
				own, e := stack.From(shared.Items())
				if e != api.OK {
					t.Errorf("From = %v", e)
				}
				own.Lay(numbered(40, 3))
				if got := allPopped(own); !slices.Equal(got, want) {
					t.Errorf("popped %v, want %v", got, want)
				}
			}
		}()
	}
	all.Wait()
}
