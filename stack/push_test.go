package stack_test

import (
	"fmt"
	"math"
	"slices"
	"testing"

	"gambit/api"
	"gambit/stack"
)

// P23.1 to P23.3: New, From, Push, Lay

// judged is an item, and whether it may be.
type judged struct {
	item  api.Item
	mayBe bool
}

// judgedItems tells each single way in which an item may be, or not, at the bounds and about them.
func judgedItems() []judged {
	l := []judged{{fine(), true}, {api.Item{Thing: 1}, true}, {api.Item{Thing: 2048, Part: 4, Holder: 1, Meant: 2048}, true}, {api.Item{Thing: 1, Meant: -2}, true}, {api.Item{}, false}}
	for _, row := range []struct {
		low, high int
		change    func(i *api.Item, n int)
	}{
		{1, 2048, func(i *api.Item, n int) { i.Thing = n }},
		{0, 4, func(i *api.Item, n int) { i.Part = n }},
		{0, 1, func(i *api.Item, n int) { i.Holder = n }},
		{-2, 2048, func(i *api.Item, n int) { i.Meant = n }},
	} {
		for _, n := range []int{math.MinInt, -2049, -100, -4, -3, -2, -1, 0, 1, 2, 3, 4, 5, 6, 24, 25, 2047, 2048, 2049, 2050, math.MaxInt} {
			i := with(func(i *api.Item) { row.change(i, n) })
			l = append(l, judged{i, n >= row.low && n <= row.high})
		}
	}
	return l
}

func TestNew(t *testing.T) {
	s := stack.New()
	if s == nil {
		t.Fatal("New() = nil")
	}
	holds(t, s, nil)
	if e := s.Push(fine()); e != api.OK {
		t.Errorf("Push onto a new stack = %v", e)
	}
	holds(t, stack.New(), nil) // another one
}

func TestFrom(t *testing.T) {
	for count := range 25 {
		l := numbered(1, count)
		s, e := stack.From(l)
		if s == nil || e != api.OK {
			t.Fatalf("From of %d items = %v, %v", count, s, e)
		}
		holds(t, s, l)
		if got := allPopped(s); !slices.Equal(got, turned(l)) {
			t.Errorf("popped %v, want the last one of %v first", got, l)
		}
	}
}

func TestFromOfAnEmptyList(t *testing.T) {
	s, e := stack.From([]api.Item{})
	if s == nil || e != api.OK {
		t.Fatalf("From = %v, %v", s, e)
	}
	holds(t, s, nil)
}

func TestFromOfTheSameItemTwice(t *testing.T) {
	l := slices.Repeat([]api.Item{fine()}, 24)
	s, e := stack.From(l)
	if e != api.OK {
		t.Fatalf("From = %v", e)
	}
	holds(t, s, l)
}

func TestFromOfTooMany(t *testing.T) {
	for _, count := range []int{25, 26, 48, 2048, 5000} {
		l := slices.Repeat([]api.Item{fine()}, count)
		for _, place := range []int{-1, 0, 23, 24, count - 1} { // where one stands that may not be
			items := slices.Clone(l)
			if place >= 0 {
				items[place] = api.Item{}
			}
			if s, e := stack.From(items); s != nil || e != api.ErrLong {
				t.Errorf("From of %d items, %d may not be = %v, %v, want ErrLong", count, place, s, e)
			}
		}
	}
}

func TestFromOfEachItem(t *testing.T) {
	for _, j := range judgedItems() {
		for _, count := range []int{1, 2, 24} {
			for place := range count {
				l := numbered(1, count)
				l[place] = j.item
				s, e := stack.From(l)
				switch {
				case j.mayBe && e == api.OK:
					holds(t, s, l)
				case j.mayBe, s != nil, e != api.ErrArg:
					t.Errorf("From of %v at the place %d of %d = %v, %v", j.item, place, count, s, e)
				}
			}
		}
	}
}

func TestPushOfEachItem(t *testing.T) {
	for _, count := range []int{0, 1, 12, 23, 24} {
		for _, j := range judgedItems() {
			l := numbered(1, count)
			s := of(t, l)
			want := api.OK
			switch {
			case !j.mayBe:
				want = api.ErrArg // of a full stack, too
			case count == 24:
				want = api.ErrFull
			default:
				l = append(l, j.item)
			}
			if e := s.Push(j.item); e != want {
				t.Errorf("Push(%v) onto %d = %v, want %v", j.item, count, e, want)
			}
			holds(t, s, l)
		}
	}
}

func TestPushTillItIsFull(t *testing.T) {
	s, l := stack.New(), numbered(100, 30)
	for n, i := range l {
		want := api.OK
		if n >= 24 {
			want = api.ErrFull
		}
		if e := s.Push(i); e != want {
			t.Fatalf("Push, the %dth time = %v, want %v", n+1, e, want)
		}
		holds(t, s, l[:min(n+1, 24)])
	}
	s.Pop()
	if e := s.Push(l[29]); e != api.OK {
		t.Fatalf("Push behind a Pop = %v", e)
	}
	holds(t, s, append(slices.Clone(l[:23]), l[29]))
	if e := s.Push(l[28]); e != api.ErrFull {
		t.Errorf("Push = %v, want ErrFull", e)
	}
}

// laid tells what stands behind a Lay, and how many were lost, taken word by word: the last one first, as long as there is room.
func laid(stands, list []api.Item) (all []api.Item, lost int) {
	all = slices.Clone(stands)
	for _, i := range turned(list) {
		if len(all) == 24 {
			lost++
			continue
		}
		all = append(all, i)
	}
	return all, lost
}

func TestLay(t *testing.T) {
	for count := range 25 {
		for more := range 30 {
			stands, list := numbered(1, count), numbered(1001, more)
			s := of(t, stands)
			want, lost := laid(stands, list)
			if n, e := s.Lay(list); n != lost || e != api.OK {
				t.Fatalf("Lay of %d onto %d = %d, %v, want %d lost", more, count, n, e, lost)
			}
			holds(t, s, want)
			if got := allPopped(s); !slices.Equal(got[:more-lost], list[lost:]) {
				t.Fatalf("popped behind a Lay of %d onto %d: %v", more, count, got)
			}
		}
	}
}

func TestLayOfVeryMany(t *testing.T) {
	s, l := of(t, numbered(1, 3)), numbered(4, 2000)
	if lost, e := s.Lay(l); lost != 1979 || e != api.OK {
		t.Fatalf("Lay = %d, %v", lost, e)
	}
	holds(t, s, append(numbered(1, 3), turned(l[1979:])...))
}

func TestLayOfNone(t *testing.T) {
	for _, count := range []int{0, 1, 23, 24} {
		for _, l := range [][]api.Item{nil, {}} {
			s := of(t, numbered(1, count))
			if lost, e := s.Lay(l); lost != 0 || e != api.OK {
				t.Errorf("Lay(%v) onto %d = %d, %v", l, count, lost, e)
			}
			holds(t, s, numbered(1, count))
		}
	}
}

func TestLayOfEachItem(t *testing.T) {
	for _, c := range []struct{ stands, list, place int }{
		{0, 1, 0}, {23, 1, 0}, {24, 1, 0},
		{0, 3, 0}, {0, 3, 1}, {0, 3, 2}, {22, 3, 0}, {22, 3, 1}, {22, 3, 2}, {24, 3, 0}, {24, 3, 1}, {24, 3, 2},
		{20, 40, 0}, {20, 40, 35}, {20, 40, 36}, {20, 40, 39},
	} {
		for _, j := range judgedItems() {
			stands, list := numbered(1, c.stands), numbered(1001, c.list)
			list[c.place] = j.item
			s := of(t, stands)
			want, lost, refused := stands, 0, api.ErrArg // one that would be lost may not be wrong either
			if j.mayBe {
				want, lost = laid(stands, list)
				refused = api.OK
			}
			if n, e := s.Lay(list); n != lost || e != refused {
				t.Errorf("Lay onto %d of %d, %v at the place %d = %d, %v, want %d, %v", c.stands, c.list, j.item, c.place, n, e, lost, refused)
			}
			holds(t, s, want)
		}
	}
}

// notMade tells stacks that no function of the package made.
func notMade() map[string]*stack.Stack {
	var zero stack.Stack
	return map[string]*stack.Stack{"nil": nil, "new": new(stack.Stack), "written down": {}, "zero": &zero}
}

// Of what is none no error but ErrNil is told (rule 1, rule 5), and it stays none.
func TestErrNil(t *testing.T) {
	for name, s := range notMade() {
		for range 2 {
			for _, i := range []api.Item{fine(), {}, {Thing: 2049}} {
				if e := s.Push(i); e != api.ErrNil {
					t.Errorf("%s: Push(%v) = %v", name, i, e)
				}
			}
			for _, l := range [][]api.Item{nil, {}, {fine()}, {{}}, numbered(1, 30)} {
				if lost, e := s.Lay(l); lost != 0 || e != api.ErrNil {
					t.Errorf("%s: Lay(%v) = %d, %v", name, l, lost, e)
				}
			}
			if i, ok := s.Pop(); i != (api.Item{}) || ok {
				t.Errorf("%s: Pop() = %v, %v", name, i, ok)
			}
			if s.Down() == nil {
				t.Errorf("%s: Down() = nil", name)
			}
			holds(t, s, nil)
		}
	}
}

func ExampleStack_Lay() {
	s := stack.New()
	s.Push(api.Item{Thing: 9})
	s.Lay([]api.Item{{Thing: 5, Part: 1}, {Thing: 5, Part: 2}})
	for place, i := range s.Down() {
		fmt.Println(place, i.Thing, i.Part)
	}
	// Output:
	// 0 5 1
	// 1 5 2
	// 2 9 0
}
