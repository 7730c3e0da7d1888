package stack_test

import (
	"slices"
	"testing"

	"gambit/api"
	"gambit/pile"
	"gambit/stack"
)

// P23.6, and rule 3: what follows, behind calls by chance held against a list that is kept beside the stack.

// chance tells numbers out of pile's generator.
type chance struct{ state uint64 }

// from tells a number from low to high.
func (c *chance) from(low, high int) int {
	var number uint64
	number, c.state = pile.Next(c.state)
	return low + int(number%uint64(high-low+1))
}

// item tells one, with now and then a fault.
func (c *chance) item() api.Item {
	i := api.Item{Thing: c.from(1, 2048), Part: c.from(0, 4), Holder: c.from(0, 1), Meant: c.from(-2, 2048)}
	switch c.from(0, 60) {
	case 0:
		i.Thing = 2049 * c.from(0, 1)
	case 1:
		i.Part = 6*c.from(0, 1) - 1
	case 2:
		i.Holder = 3*c.from(0, 1) - 1
	case 3:
		i.Meant = 2052*c.from(0, 1) - 3
	}
	return i
}

func (c *chance) items(most int) []api.Item {
	var l []api.Item
	for range c.from(0, most) {
		l = append(l, c.item())
	}
	return l
}

// may tells whether an item may be, as the chapter has it.
func may(i api.Item) bool {
	return i.Thing >= 1 && i.Thing <= 2048 && i.Part >= 0 && i.Part <= 4 && (i.Holder == 0 || i.Holder == 1) && i.Meant >= -2 && i.Meant <= 2048
}

func allMay(l []api.Item) bool {
	for _, i := range l {
		if !may(i) {
			return false
		}
	}
	return true
}

// pushed tells what Push answers, and what stands behind it.
func pushed(stands []api.Item, i api.Item) ([]api.Item, api.Errno) {
	switch {
	case !may(i):
		return stands, api.ErrArg
	case len(stands) == 24:
		return stands, api.ErrFull
	}
	return append(slices.Clone(stands), i), api.OK
}

// call makes some call, which is the likelier a Pop the more pops says, and tells what must stand then.
func (c *chance) call(t *testing.T, s *stack.Stack, stands []api.Item, pops int) []api.Item {
	t.Helper()
	switch c.from(0, 3+pops) {
	case 0, 1:
		i := c.item()
		now, want := pushed(stands, i)
		if e := s.Push(i); e != want {
			t.Fatalf("Push(%v) onto %d = %v, want %v", i, len(stands), e, want)
		}
		return now
	case 2:
		l := c.items(8)
		now, lost, want := stands, 0, api.ErrArg
		if allMay(l) {
			now, lost = laid(stands, l)
			want = api.OK
		}
		if n, e := s.Lay(l); n != lost || e != want {
			t.Fatalf("Lay(%v) onto %d = %d, %v, want %d, %v", l, len(stands), n, e, lost, want)
		}
		return now
	}
	i, ok := s.Pop()
	if ok != (len(stands) > 0) || ok && i != stands[len(stands)-1] || !ok && i != (api.Item{}) {
		t.Fatalf("Pop() of %v = %v, %v", stands, i, ok)
	}
	return stands[:max(0, len(stands)-1)]
}

func TestCallsByChance(t *testing.T) {
	full, empty := 0, 0
	for seed := range uint64(60) {
		c := chance{seed}
		stands := c.items(24)
		for !allMay(stands) {
			stands = c.items(24)
		}
		s, e := stack.From(stands)
		if e != api.OK {
			t.Fatalf("From(%v) = %v", stands, e)
		}
		other := numbered(1, c.from(0, 24))
		beside := of(t, other)
		for range 300 {
			stands = c.call(t, s, stands, int(seed%12))
			holds(t, s, stands)
			switch len(stands) {
			case 0:
				empty++
			case 24:
				full++
			}
		}
		holds(t, beside, other) // two stacks know nothing of each other
	}
	if full < 100 || empty < 100 {
		t.Errorf("full %d times, empty %d times: too seldom", full, empty)
	}
}

func TestPopTellsTheLastOneFirst(t *testing.T) {
	for count := range 25 {
		l := numbered(40, count)
		if got := allPopped(of(t, l)); !slices.Equal(got, turned(l)) {
			t.Errorf("popped %v, pushed %v", got, l)
		}
	}
}

func TestPopTellsWhatWasLaidInItsOrder(t *testing.T) {
	for stands := range 25 {
		for count := range 25 - stands { // behind which there is room, to the last place
			l := numbered(40, count)
			s := of(t, numbered(1, stands))
			if lost, e := s.Lay(l); lost != 0 || e != api.OK {
				t.Fatalf("Lay of %d onto %d = %d, %v", count, stands, lost, e)
			}
			if got := allPopped(s); !slices.Equal(got, append(l, turned(numbered(1, stands))...)) {
				t.Errorf("popped %v behind a Lay of %v onto %d", got, l, stands)
			}
		}
	}
}

func TestNeverMoreThan24(t *testing.T) {
	s := stack.New()
	for n := range 200 {
		s.Push(fine())
		s.Lay(numbered(1, n))
		if got := s.Len(); got > 24 || len(s.Items()) != got || n > 24 && got != 24 {
			t.Fatalf("Len() = %d, Items() has %d", got, len(s.Items()))
		}
	}
}

// A stack made out of another one's items is a stack of its own, and pops alike.
func TestFromOfItems(t *testing.T) {
	l := numbered(1, 10)
	s := of(t, l)
	again, e := stack.From(s.Items())
	if e != api.OK {
		t.Fatalf("From = %v", e)
	}
	if a, b := allPopped(s), allPopped(again); !slices.Equal(a, b) || len(a) != 10 {
		t.Errorf("popped %v and %v", a, b)
	}
}
