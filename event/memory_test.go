package event_test

import (
	"slices"
	"sync"
	"testing"

	"gambit/api"
	"gambit/book"
	"gambit/event"
)

// Rules 3, 4 and 8: what was handed in stays, and may be written over; each answer is new memory.

// withRoom is a list with spare room in which something stands.
func withRoom[T any](l []T, behind T) []T {
	return append(slices.Clone(l), slices.Repeat([]T{behind}, 8)...)[:len(l)]
}

// roomOf is a list with its spare room.
func roomOf[T any](l []T) []T { return l[:cap(l)] }

// writeOver writes something into a list, its spare room too.
func writeOver[T any](l []T, with T) {
	for i := range roomOf(l) {
		roomOf(l)[i] = with
	}
}

// behind is what stands in the spare room of a state's lists.
type behind struct {
	thing  api.Thing
	number int
	item   api.Item
}

// roomy is a state with spare room behind each list.
func roomy(s api.State, x behind) api.State {
	s.Things, s.Stack = withRoom(s.Things, x.thing), withRoom(s.Stack, x.item)
	for who := range 2 {
		s.Decks[who], s.Hands[who] = withRoom(s.Decks[who], x.number), withRoom(s.Hands[who], x.number)
	}
	return s
}

// fine is what lists might have, wrong what they may not.
func fine() behind {
	return behind{api.Thing{Card: 1, Place: api.Table, Stamp: 1}, 14, api.Item{Thing: 1, Part: 1}}
}

func wrong() behind { return behind{api.Thing{Card: -1, Owner: 9}, -7, api.Item{Thing: -1}} }

// sameRoom tells whether two states are the same, the spare room of their lists too.
func sameRoom(a, b api.State) bool {
	for who := range 2 {
		if !slices.Equal(roomOf(a.Decks[who]), roomOf(b.Decks[who])) || !slices.Equal(roomOf(a.Hands[who]), roomOf(b.Hands[who])) {
			return false
		}
	}
	return sameState(a, b) && slices.Equal(roomOf(a.Things), roomOf(b.Things)) && slices.Equal(roomOf(a.Stack), roomOf(b.Stack))
}

// writeOverAll writes over all lists of a state.
func writeOverAll(s api.State) {
	writeOver(s.Things, wrong().thing)
	writeOver(s.Stack, wrong().item)
	for who := range 2 {
		writeOver(s.Decks[who], wrong().number)
		writeOver(s.Hands[who], wrong().number)
	}
}

// items to push onto the sound scene's stack.
func more() []api.Item {
	return []api.Item{{Thing: 1, Part: 1}, {Thing: 2, Part: 2, Holder: 1, Meant: -1}, {Thing: 13, Part: 3}}
}

// busy makes each call of a world of the sound scene, so that all of its lists are changed.
func busy(t testing.TB, w *event.World, l []api.Item) {
	t.Helper()
	for _, d := range []api.Deed{harm(2, 1), draw(-1, 1), drop(-2, 1), call(-1, 1, "wolf"), put(3, 1, api.Up), back(3), gain(-2, 1)} {
		if e := w.Do(d); e != api.OK {
			t.Fatalf("Do(%+v) = %d", d, e)
		}
	}
	if e := w.Push(l); e != api.OK {
		t.Fatalf("Push(%v) = %d", l, e)
	}
	w.Take()
	w.Come(5)
	w.Settle()
}

func TestWhatIsHandedInStays(t *testing.T) {
	sc := sound(t)
	twin := sealed(t, cards()...)
	for _, x := range []behind{fine(), wrong(), {}} {
		s, same := roomy(sc.s, x), roomy(sc.s, x)
		l := withRoom(more(), x.item)
		w, e := event.New(sc.b, s)
		if e != api.OK {
			t.Fatalf("New = %d", e)
		}
		busy(t, w, l)
		if !sameRoom(s, same) || !slices.Equal(roomOf(l), roomOf(withRoom(more(), x.item))) || !book.Same(sc.b, twin) {
			t.Errorf("what was handed in is\n%s\nand %v", told(s), roomOf(l))
		}
		event.May(sc.b, s)
		w.Push(l[:2])
		w.Push(append(withRoom(l, x.item), api.Item{}))
		if !sameRoom(s, same) {
			t.Errorf("what was handed in is\n%s", told(s))
		}
	}
}

// What stands in the spare room of a list is nothing of it; what is handed in may be written over behind the call.
func TestWhatWasHandedInMayBeWrittenOver(t *testing.T) {
	sc := sound(t)
	want := sc.world(t)
	busy(t, want, more())
	for _, x := range []behind{fine(), wrong()} {
		s, l := roomy(sc.s, x), withRoom(more(), x.item)
		w, e := event.New(sc.b, s)
		if e != api.OK || !event.May(sc.b, s) {
			t.Fatalf("New = %d", e)
		}
		writeOverAll(s)
		sc.wantWorld(t, w, sc.s, 0)
		busy(t, w, l)
		writeOver(l, wrong().item)
		writeOverAll(s)
		sc.wantWorld(t, w, want.State(), want.Count())
	}
}

// Each list that is answered may be written over: the world stays, and so does each other answer. Nothing stands in its spare room.
func TestAnswersAreNewMemory(t *testing.T) {
	sc := sound(t)
	for _, ready := range []func(*event.World){func(*event.World) {}, func(w *event.World) { busy(t, w, more()) }} {
		w := sc.world(t)
		ready(w)
		want, count := w.State(), w.Count()
		s, other, fs, others := w.State(), w.State(), w.Features(), w.Features()
		wantNothingBehind(t, s.Things)
		wantNothingBehind(t, s.Stack)
		wantNothingBehind(t, fs)
		for who := range 2 {
			wantNothingBehind(t, s.Decks[who])
			wantNothingBehind(t, s.Hands[who])
		}
		writeOverAll(s)
		writeOver(fs, api.Feature{Holder: 9})
		if !sameState(other, want) || slices.Contains(others, api.Feature{Holder: 9}) {
			t.Error("an answer shares memory with another one")
		}
		sc.wantWorld(t, w, want, count)
		// No list of one answer shares memory with another one of it.
		for i := range 2 {
			writeOver(other.Decks[i], 1000+i)
			writeOver(other.Hands[i], 2000+i)
		}
		for i := range 2 {
			if slices.ContainsFunc(roomOf(other.Decks[i]), func(n int) bool { return n != 1000+i }) || slices.ContainsFunc(roomOf(other.Hands[i]), func(n int) bool { return n != 2000+i }) {
				t.Error("two lists of an answer share memory")
			}
		}
	}
}

// wantNothingBehind: nothing stands in a list's spare room.
func wantNothingBehind[T comparable](t *testing.T, l []T) {
	t.Helper()
	var zero T
	for _, x := range roomOf(l)[len(l):] {
		if x != zero {
			t.Errorf("behind the list stands %+v", x)
		}
	}
}

// Rule 3: behind calls that were refused all goes on as if they had not been made.
func TestRefusedIsNothing(t *testing.T) {
	sc := sound(t)
	want, w := sc.world(t), sc.world(t)
	refuse := func() {
		w.Do(harm(99, 1))
		w.Do(api.Deed{Verb: api.Raise, On: 1})
		w.Do(call(-1, 1, "x"))
		w.Do(call(-1, 1, "zap"))
		w.Come(99)
		w.Come(1)
		w.Push([]api.Item{{Thing: 1, Part: 1}, {Thing: 99, Part: 1}})
		w.Push([]api.Item{{Thing: 1, Part: 1}, {Thing: 4}})
	}
	for range 3 {
		refuse()
		for _, world := range []*event.World{want, w} {
			world.Do(harm(2, 1))
			world.Take()
			world.Do(draw(-1, 2))
		}
		refuse()
		sc.wantWorld(t, w, want.State(), want.Count())
	}
}

// Rule 8: many may have worlds of one book and one state at the same time.
func TestManyGoroutines(t *testing.T) {
	sc := sound(t)
	want := sc.world(t)
	busy(t, want, more())
	var working sync.WaitGroup
	for range 8 {
		working.Go(func() {
			for range 5 {
				w, e := event.New(sc.b, sc.s)
				if e != api.OK || !event.May(sc.b, sc.s) {
					t.Errorf("New = %d", e)
					return
				}
				busy(t, w, more())
				if !sameState(w.State(), want.State()) {
					t.Error("all is told otherwise")
				}
			}
		})
	}
	working.Wait()
}
