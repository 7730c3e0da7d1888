package swap_test

import (
	"slices"
	"sync"
	"testing"

	"gambit/api"
	"gambit/book"
	"gambit/swap"
)

// Rule 4: what was handed in stays, and may be written over; each answer is new memory.

// handed is all that the calls are handed: a scene, and swaps that were used.
type handed struct {
	scene
	used []api.Standing
}

// behind is what stands in the spare room of each list.
type behind struct {
	thing   api.Thing
	feature api.Feature
	swap    api.Standing
}

// roomy is the full table with spare room behind each list, in which other things stand.
func roomy(t testing.TB, x behind) handed {
	t.Helper()
	sc := full(t)
	return handed{scene{sc.b, withRoom(sc.things, x.thing), withRoom(sc.fs, x.feature)}, withRoom(sc.swaps(t, "16.0 2.3"), x.swap)}
}

// withRoom is a list with spare room in which something stands.
func withRoom[T any](l []T, behind T) []T {
	return append(slices.Clone(l), slices.Repeat([]T{behind}, 8)...)[:len(l)]
}

// roomOf is a list with its spare room.
func roomOf[T any](l []T) []T { return l[:cap(l)] }

// writeOver writes something into a list, its spare room too.
func writeOver[T any](l []T, with T) {
	for i := range roomOf(l) {
		roomOf(l)[i] = with
	}
}

// wantSame: what two were handed, their books and their lists with the spare room, are the same.
func wantSame(t *testing.T, a, b handed) {
	t.Helper()
	if !slices.Equal(roomOf(a.things), roomOf(b.things)) || !slices.Equal(roomOf(a.fs), roomOf(b.fs)) || !slices.Equal(roomOf(a.used), roomOf(b.used)) || !book.Same(a.b, b.b) {
		t.Errorf("what was handed in is %+v, want %+v", a, b)
	}
}

// answers is all that the calls tell.
type answers struct {
	list    []api.Standing
	swaps   []bool
	after   api.Happening
	by      api.Standing
	ok      bool
	swapped [2]api.Swapped
}

// ask makes all calls that are not refused.
func ask(t testing.TB, x handed) answers {
	t.Helper()
	var a answers
	var e api.Errno
	if a.list, e = swap.List(x.b, x.things, x.fs); e != api.OK {
		t.Fatalf("List = %d", e)
	}
	for _, s := range a.list {
		a.swaps = append(a.swaps, swap.Swaps(x.b, x.things, x.fs, s, harm(-1, 3)))
	}
	a.after, a.by, a.ok = swap.Next(x.b, x.things, x.fs, harm(-1, 3), x.used)
	for i := range a.swapped {
		if a.swapped[i], e = swap.All(x.b, x.things, x.fs, harm(-1-i, 3)); e != api.OK {
			t.Fatalf("All = %d", e)
		}
	}
	return a
}

// lists are all lists that the calls told.
func (a answers) lists() [][]api.Standing {
	return [][]api.Standing{a.list, a.swapped[0].Used, a.swapped[1].Used}
}

func (a answers) equal(b answers) bool {
	return slices.Equal(a.list, b.list) && slices.Equal(a.swaps, b.swaps) && a.after == b.after && a.by == b.by && a.ok == b.ok &&
		same(a.swapped[0], b.swapped[0]) && same(a.swapped[1], b.swapped[1])
}

// fine is what lists might have.
func fine() behind {
	return behind{
		api.Thing{Card: 1, Place: api.Table, Stamp: 500},
		api.Feature{Holder: 1},
		api.Standing{Thing: 15, What: api.Part{When: api.Rather, Verb: api.Turned, Whom: api.You}},
	}
}

func TestWhatIsHandedInStays(t *testing.T) {
	x, twin := roomy(t, fine()), roomy(t, fine())
	ask(t, x)
	wantSame(t, x, twin)
	swap.All(x.b, x.things, x.fs, harm(99, 3))
	swap.Next(x.b, x.things, x.fs, drawing(1), x.used)
	wantSame(t, x, twin)
}

// What stands in the spare room of a list is nothing of it, be it wrong or not.
func TestSpareRoomIsNotRead(t *testing.T) {
	want := ask(t, roomy(t, behind{}))
	wrong := behind{api.Thing{Card: -1, Owner: 9, Place: api.Table}, api.Feature{Holder: 9, Traits: 65535}, api.Standing{Thing: -1}}
	for _, x := range []behind{fine(), wrong} {
		if got := ask(t, roomy(t, x)); !got.equal(want) {
			t.Errorf("the answers are %+v, want %+v", got, want)
		}
	}
	// All that was used stands in the spare room: none of it counts.
	x := roomy(t, fine())
	list, _ := swap.List(x.b, x.things, x.fs)
	x.wantNext(t, harm(-1, 3), list[:0], harm(-1, 3), "16.1")
	long := sound(t).grown(3000)
	wantTaken(t, scene{long.b, long.things[:2048], long.fs[:2048]})
}

// Each list that is answered may be written over, one by one: what was handed in stays, and so does each other answer. Nothing stands in its spare room.
func TestAnswersAreNewMemory(t *testing.T) {
	x, twin := roomy(t, fine()), roomy(t, fine())
	want, other := ask(t, x), ask(t, x)
	lists, wantLists := ask(t, x).lists(), ask(t, x).lists()
	for i, l := range lists {
		if len(l) == 0 || !slices.Equal(l, wantLists[i]) {
			t.Errorf("the swaps are %+v, want %+v", l, wantLists[i])
		}
		if slices.ContainsFunc(roomOf(l)[len(l):], func(s api.Standing) bool { return s != api.Standing{} }) {
			t.Errorf("behind the swaps stand %+v", roomOf(l)[len(l):])
		}
		writeOver(l, api.Standing{Thing: -7})
	}
	wantSame(t, x, twin)
	if !other.equal(want) || !ask(t, x).equal(want) {
		t.Error("an answer shares memory with another one")
	}
}

// Nothing that was handed in is looked at later.
func TestWhatWasHandedInMayBeWrittenOver(t *testing.T) {
	x := roomy(t, fine())
	got, want := ask(t, x), ask(t, roomy(t, fine()))
	writeOver(x.things, api.Thing{Card: 1, Owner: 1})
	writeOver(x.fs, api.Feature{Holder: 9})
	writeOver(x.used, api.Standing{})
	if !got.equal(want) {
		t.Errorf("the answers are %+v now, were %+v", got, want)
	}
}

// Rule 3: behind calls that were refused all is answered as ahead of them.
func TestRefusedIsNothing(t *testing.T) {
	x, twin := roomy(t, fine()), roomy(t, fine())
	want := ask(t, x)
	for _, other := range wrongScenes(t) {
		swap.List(other.b, other.things, other.fs)
		swap.All(other.b, x.things, other.fs, harm(1, 3))
		swap.All(x.b, other.things, x.fs, harm(1, 3))
	}
	for _, on := range far() {
		swap.Next(x.b, x.things, x.fs, harm(on, 3), x.used)
		swap.Swaps(x.b, x.things, x.fs, want.by, breaking(on))
	}
	wantSame(t, x, twin)
	if !ask(t, x).equal(want) {
		t.Error("all is told otherwise")
	}
}

// Rule 8: many may ask at the same time, of one book and the same lists.
func TestManyGoroutinesAsk(t *testing.T) {
	x := roomy(t, fine())
	want := ask(t, x)
	var asking sync.WaitGroup
	for range 8 {
		asking.Go(func() {
			for range 5 {
				list, _ := swap.List(x.b, x.things, x.fs)
				told, _ := swap.All(x.b, x.things, x.fs, harm(-1, 3))
				if !slices.Equal(list, want.list) || !same(told, want.swapped[0]) {
					t.Error("all is told otherwise")
				}
				writeOver(list, api.Standing{})
				writeOver(told.Used, api.Standing{})
			}
		})
	}
	asking.Wait()
}
