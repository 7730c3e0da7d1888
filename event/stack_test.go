package event_test

import (
	"slices"
	"testing"

	"gambit/api"
	"gambit/event"
)

// P22.5 and P22.6: Come, Take and Push.

// off takes the card's item of a thing off the stack.
func off(n int) func(*api.State) {
	return func(s *api.State) {
		s.Stack = slices.DeleteFunc(s.Stack, func(i api.Item) bool { return i.Thing == n && i.Part == 0 })
	}
}

// arrives is a Stacked thing that comes to the table, falls one that comes into the grave.
func arrives(n int) func(*api.State) {
	return all(off(n), func(s *api.State) { come(s, n, api.Table) })
}

func falls(n int) func(*api.State) { return all(off(n), grave(n)) }

// wantCome lets a thing come in a new world.
func (sc scene) wantCome(t *testing.T, n int, want bool, count int, change func(*api.State)) {
	t.Helper()
	w := sc.world(t)
	if came, e := w.Come(n); came != want || e != api.OK {
		t.Errorf("Come(%d) = %v, %d, want %v", n, came, e, want)
	}
	sc.wantWorld(t, w, sc.by(change).s, count)
}

func TestComeOfWhatIsNotStacked(t *testing.T) {
	sc := sound(t)
	w := sc.world(t)
	for _, n := range out(0, -1, -2, 14, 15, 2048, 1, 2, 3, 6, 7, 8, 9, 11, 12, 13) {
		if came, e := w.Come(n); came || e != api.ErrMissing {
			t.Errorf("Come(%d) = %v, %d", n, came, e)
		}
	}
	sc.wantWorld(t, w, sc.s, 0)
}

func TestCome(t *testing.T) {
	sc := table(t, "ox 0 stack", "nest 1 stack", "wolf 1 stack", "zap 0 stack", "ox 1 table").by(func(s *api.State) {
		s.Stack[0].Meant, s.Stack[1].Meant = -2, 5
	})
	sc.wantCome(t, 1, true, 0, arrives(1))
	sc.wantCome(t, 2, true, 0, arrives(2))
	sc.wantCome(t, 3, true, 0, arrives(3)) // its Played parts are not put on the stack here
	sc.wantCome(t, 4, false, 0, falls(4))
	w := sc.world(t)
	for _, n := range []int{3, 4, 1, 2} {
		w.Come(n)
		if came, e := w.Come(n); came || e != api.ErrMissing {
			t.Errorf("Come(%d) = %v, %d once more", n, came, e)
		}
	}
	sc.wantWorld(t, w, sc.by(all(arrives(3), falls(4), arrives(1), arrives(2))).s, 0)
}

// The item leaves the stack wherever it stands; the others, the thing's parts among them, stay in their order.
func TestComeOutOfTheStack(t *testing.T) {
	sc := table(t, "wolf 0 stack", "ox 1 stack", "zap 0 stack").by(func(s *api.State) {
		s.Stack = []api.Item{
			{Thing: 1, Part: 2, Holder: 1}, {Thing: 2, Holder: 1, Meant: 3}, {Thing: 1, Part: 1}, {Thing: 1},
			{Thing: 1, Part: 2, Holder: 1}, {Thing: 3, Meant: -1}, {Thing: 1, Part: 3},
		}
	})
	sc.wantCome(t, 1, true, 0, arrives(1))
	sc.wantCome(t, 2, true, 0, arrives(2))
	sc.wantCome(t, 3, false, 0, falls(3))
}

func TestComeToAFullTable(t *testing.T) {
	for _, name := range []string{"ox", "nest"} {
		sc := table(t, name+" 0 stack", name+" 1 stack")
		for count := 6; count <= 8; count++ {
			full := sc
			for range count {
				full = full.with(t, "nest 0 table")
			}
			full = full.with(t, "bear 1 table").by(func(s *api.State) { s.Things[len(s.Things)-1].Hurt = 2 })
			bear := len(full.s.Things)
			if count < 8 {
				full.wantCome(t, 1, true, 1, all(arrives(1), grave(bear)))
			} else {
				full.wantCome(t, 1, false, 0, falls(1)) // nothing is settled behind that
			}
			full.wantCome(t, 2, true, 1, all(arrives(2), grave(bear)))
		}
	}
}

// Of a Spell nothing is settled, full table or not.
func TestComeOfASpell(t *testing.T) {
	sc := dying(t, "zap 0 stack", "zap 1 stack")
	sc.wantCome(t, 2, false, 0, falls(2))
	sc.wantCome(t, 3, false, 0, falls(3))
	for range 7 {
		sc = sc.with(t, "nest 0 table")
	}
	sc.wantCome(t, 2, false, 0, falls(2))
}

// What comes to the table is settled with all else, by the features with it; its coming is no event.
func TestComeIsSettled(t *testing.T) {
	sc := table(t, "imp 0 table", "pit 1 stack", "moth 1 stack", "lord 0 stack", "bear 0 table", "ox 1 table").by(all(marks(1, [4]int{1}), hurt(5, 1)))
	sc.wantCome(t, 2, true, 1, all(arrives(2), grave(5)))
	sc.wantCome(t, 3, true, 0, arrives(3))
	w := sc.world(t)
	w.Come(4)
	w.Come(2)
	sc.wantWorld(t, w, sc.by(all(arrives(4), arrives(2), grave(4), grave(5))).s, 2)
	w.Come(3)
	sc.wantWorld(t, w, sc.by(all(arrives(4), arrives(2), grave(4), grave(5), arrives(3), grave(3), items([3]int{3, 2, 1}))).s, 3)
}

func TestComeWhereNoEventIsLeft(t *testing.T) {
	sc := table(t, "bear 0 table", "pit 1 stack", "zap 0 stack").by(hurt(1, 1))
	w := sc.world(t)
	spend(t, w, 256)
	if came, e := w.Come(2); !came || e != api.OK {
		t.Errorf("Come = %v, %d", came, e)
	}
	sc.wantWorld(t, w, sc.by(arrives(2)).s, 256)
	if came, e := w.Come(3); came || e != api.OK {
		t.Errorf("Come = %v, %d", came, e)
	}
	sc.wantWorld(t, w, sc.by(all(arrives(2), falls(3))).s, 256)
}

// wantTake takes the top item.
func wantTake(t *testing.T, w *event.World, want api.Item, wantCame, wantOK bool) {
	t.Helper()
	if i, came, ok := w.Take(); i != want || came != wantCame || ok != wantOK {
		t.Errorf("Take() = %+v, %v, %v, want %+v, %v, %v", i, came, ok, want, wantCame, wantOK)
	}
}

func TestTake(t *testing.T) {
	sc := table(t, "ox 0 stack", "zap 1 stack", "bear 0 table", "pit 1 stack", "wolf 1 grave").by(func(s *api.State) {
		s.Things[2].Hurt = 1
		s.Stack = []api.Item{
			{Thing: 1, Meant: 3}, {Thing: 2, Holder: 1, Meant: -1}, {Thing: 5, Part: 1, Meant: 5},
			{Thing: 4, Holder: 1, Meant: -2}, {Thing: 5, Part: 3, Holder: 1},
		}
	})
	w, want := sc.world(t), sc
	wantTake(t, w, api.Item{Thing: 5, Part: 3, Holder: 1}, false, true)
	want = want.by(func(s *api.State) { s.Stack = s.Stack[:4] })
	sc.wantWorld(t, w, want.s, 0)
	wantTake(t, w, api.Item{Thing: 4, Holder: 1, Meant: -2}, true, true)
	want = want.by(all(arrives(4), grave(3)))
	sc.wantWorld(t, w, want.s, 1)
	wantTake(t, w, api.Item{Thing: 5, Part: 1, Holder: 0, Meant: 5}, false, true)
	want = want.by(func(s *api.State) { s.Stack = s.Stack[:2] })
	sc.wantWorld(t, w, want.s, 1)
	wantTake(t, w, api.Item{Thing: 2, Holder: 1, Meant: -1}, false, true)
	want = want.by(falls(2))
	sc.wantWorld(t, w, want.s, 1)
	wantTake(t, w, api.Item{Thing: 1, Meant: 3}, true, true)
	want = want.by(arrives(1))
	sc.wantWorld(t, w, want.s, 1)
	for range 3 {
		wantTake(t, w, api.Item{}, false, false)
		sc.wantWorld(t, w, want.s, 1)
	}
}

// Of an item of a part nothing is done, and nothing settled; a card's item on a full table falls.
func TestTakeIsNoMore(t *testing.T) {
	sc := dying(t, "wolf 0 table").by(func(s *api.State) { item(s, 2, 1, 0) })
	w := sc.world(t)
	wantTake(t, w, api.Item{Thing: 2, Part: 1}, false, true)
	sc.wantWorld(t, w, sc.by(func(s *api.State) { s.Stack = nil }).s, 0)
	sc = dying(t, "ox 0 stack")
	for range 7 {
		sc = sc.with(t, "nest 0 table")
	}
	w = sc.world(t)
	wantTake(t, w, api.Item{Thing: 2}, false, true)
	sc.wantWorld(t, w, sc.by(falls(2)).s, 0)
}

// wantPush pushes items in a new world.
func (sc scene) wantPush(t *testing.T, l []api.Item, refused api.Errno, change func(*api.State)) {
	t.Helper()
	w := sc.world(t)
	if e := w.Push(l); e != refused {
		t.Errorf("Push(%v) = %d, want %d", l, e, refused)
	}
	sc.wantWorld(t, w, sc.by(change).s, 0)
}

// pushed are items on top of the stack, the last one on top.
func pushed(l ...api.Item) func(*api.State) {
	return func(s *api.State) { s.Stack = append(s.Stack, l...) }
}

func TestPush(t *testing.T) {
	sc := dying(t, "wolf 1 grave", "zap 0 stack", "imp 1 hand")
	l := []api.Item{{Thing: 2, Part: 3, Holder: 1, Meant: 4}, {Thing: 2, Part: 1, Meant: -2}, {Thing: 3, Part: 1, Holder: 1}, {Thing: 4, Part: 2, Meant: 1}, {Thing: 2, Part: 3, Holder: 1, Meant: 4}}
	for count := range len(l) + 1 {
		sc.wantPush(t, l[:count], api.OK, pushed(l[:count]...))
	}
	sc.wantPush(t, nil, api.OK, nothing)
	w := sc.world(t)
	for _, i := range l {
		w.Push([]api.Item{i})
	}
	sc.wantWorld(t, w, sc.by(pushed(l...)).s, 0)
}

// An item may be as in a state, but none of a card; where one may not be, none is pushed.
func TestPushOfWhatMayNotBe(t *testing.T) {
	sc := table(t, "wolf 1 grave", "zap 0 stack", "nest 0 table")
	good := api.Item{Thing: 1, Part: 2, Holder: 1, Meant: 3}
	var wrong []api.Item
	add := func(set func(*api.Item, int), numbers ...int) {
		for _, n := range numbers {
			i := good
			set(&i, n)
			wrong = append(wrong, i)
		}
	}
	add(func(i *api.Item, n int) { i.Thing = n }, out(0, -1, -2, 3, 4, 2048)...) // of the thing 3 there are no parts
	add(func(i *api.Item, n int) { i.Thing = n }, 2)                             // of the thing 2 there is one
	add(func(i *api.Item, n int) { i.Part = n }, out(0, -1, 4, 5)...)
	add(func(i *api.Item, n int) { i.Holder = n }, out(-1, 2)...)
	add(func(i *api.Item, n int) { i.Meant = n }, out(-3, 4)...)
	wrong = append(wrong, api.Item{}, api.Item{Thing: 2}, api.Item{Thing: 3}, api.Item{Thing: 3, Part: 1}, api.Item{Thing: 2, Part: 2})
	for _, i := range wrong {
		for _, l := range [][]api.Item{{i}, {good, i}, {i, good}, {good, i, good}, append(slices.Repeat([]api.Item{good}, 30), i)} {
			sc.wantPush(t, l, api.ErrArg, nothing)
			sc.by(stackOf(24)).wantPush(t, l, api.ErrArg, nothing)
		}
	}
	for _, meant := range []int{-2, -1, 0, 1, 2, 3} {
		i := good
		i.Meant = meant
		sc.wantPush(t, []api.Item{i}, api.OK, pushed(i))
	}
	for part := 1; part <= 3; part++ {
		i := good
		i.Part = part
		sc.wantPush(t, []api.Item{i}, api.OK, pushed(i))
	}
	sc.wantPush(t, []api.Item{{Thing: 2, Part: 1}}, api.OK, pushed(api.Item{Thing: 2, Part: 1}))
}

// A thing that was called, and the number of things that there are then, count.
func TestPushBehindACall(t *testing.T) {
	sc := table(t, "nest 0 table")
	w := sc.world(t)
	i := api.Item{Thing: 2, Part: 1, Meant: 2}
	if e := w.Push([]api.Item{i}); e != api.ErrArg {
		t.Errorf("Push = %d", e)
	}
	w.Do(call(-2, 1, "imp"))
	if e := w.Push([]api.Item{i}); e != api.OK {
		t.Errorf("Push = %d", e)
	}
	sc.wantWorld(t, w, sc.by(all(called(sc, 1, "imp"), pushed(i))).s, 1)
}

func TestPushOnAFullStack(t *testing.T) {
	sc := table(t, "wolf 0 table")
	l := []api.Item{{Thing: 1, Part: 3}, {Thing: 1, Part: 2, Holder: 1}, {Thing: 1, Part: 1, Meant: 1}}
	for there := 20; there <= 24; there++ {
		for count := range len(l) + 1 {
			room := min(count, 24-there)
			sc.by(stackOf(there)).wantPush(t, l[:count], api.OK, pushed(l[:room]...))
		}
	}
	long := slices.Repeat(l, 10)
	for there := 0; there <= 24; there++ {
		sc.by(stackOf(there)).wantPush(t, long, api.OK, pushed(long[:24-there]...))
	}
	long = slices.Repeat(l, 1000)
	sc.wantPush(t, long, api.OK, pushed(long[:24]...))
}
