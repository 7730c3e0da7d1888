package view_test

import (
	"slices"
	"sync"
	"testing"

	"gambit/api"
	"gambit/book"
	"gambit/view"
)

// Rule 4: what was handed in stays, and may be written over; each answer is new memory.

// roomy is the tower with marks, its list with spare room in which other things stand.
func roomy(t testing.TB, behind api.Thing) scene {
	t.Helper()
	sc := tower(t)
	sc.things[5].Marks = [4]int{7, 1, 2, 3}
	room := append(slices.Clone(sc.things), slices.Repeat([]api.Thing{behind}, 8)...)
	return scene{sc.b, room[:len(sc.things)]}
}

// roomOf is a list with its spare room.
func roomOf[T any](l []T) []T { return l[:cap(l)] }

// writeOver writes something into a list, its spare room too.
func writeOver[T any](l []T, with T) {
	for i := range roomOf(l) {
		roomOf(l)[i] = with
	}
}

// wantSame: two scenes, their books and their lists with the spare room, are the same.
func wantSame(t *testing.T, a, b scene) {
	t.Helper()
	if !slices.Equal(roomOf(a.things), roomOf(b.things)) || !book.Same(a.b, b.b) {
		t.Errorf("what was handed in is %+v, want %+v", roomOf(a.things), roomOf(b.things))
	}
}

// fine is a thing that a table might have.
var fine = api.Thing{Card: 1, Place: api.Table, Stamp: 100}

func TestWhatIsHandedInStays(t *testing.T) {
	sc, twin := roomy(t, fine), roomy(t, fine)
	ask(t, sc)
	wantSame(t, sc, twin)
	view.Behind(sc.b, sc.things, 7)
	view.Why(sc.b, sc.things, 99)
	wantSame(t, sc, twin)
}

// A thing in the spare room of a list is no thing of it, be it wrong or not.
func TestSpareRoomIsNotRead(t *testing.T) {
	for _, behind := range []api.Thing{fine, {}, {Card: -1, Owner: 9, Place: 9}, {Card: 1, Place: api.Table, Marks: [4]int{100}}} {
		wantAlike(t, roomy(t, api.Thing{}), roomy(t, behind))
	}
	sc := sound(t).grown(3000)
	wantTaken(t, scene{sc.b, sc.things[:2048]}, 1)
}

// lists are all lists of features, and all of effects, that the calls told.
func (a answers) lists() ([][]api.Feature, [][]api.Standing) {
	return append(a.behind[:], a.of), append(slices.Clone(a.why), a.steps)
}

// Each list that is answered may be written over, one by one: what was handed in stays, and so does each other answer. Nothing stands in its spare room.
func TestAnswersAreNewMemory(t *testing.T) {
	sc, twin := roomy(t, fine), roomy(t, fine)
	want, other := ask(t, sc), ask(t, sc)
	fs, effects := ask(t, sc).lists()
	wantFs, wantEffects := ask(t, sc).lists()
	for i, l := range fs {
		if !slices.Equal(l, wantFs[i]) || slices.ContainsFunc(roomOf(l)[len(l):], func(f api.Feature) bool { return f != api.Feature{} }) {
			t.Errorf("the features are %+v, want %+v", roomOf(l), wantFs[i])
		}
		writeOver(l, api.Feature{Holder: -7})
	}
	for i, l := range effects {
		if !slices.Equal(l, wantEffects[i]) || slices.ContainsFunc(roomOf(l)[len(l):], func(s api.Standing) bool { return s != api.Standing{} }) {
			t.Errorf("the effects are %+v, want %+v", roomOf(l), wantEffects[i])
		}
		writeOver(l, api.Standing{Thing: -7})
	}
	wantSame(t, sc, twin)
	if !other.equal(want) || !ask(t, sc).equal(want) {
		t.Error("an answer shares memory with another one")
	}
}

// Nothing that was handed in is looked at later.
func TestWhatWasHandedInMayBeWrittenOver(t *testing.T) {
	sc := roomy(t, fine)
	got, want := ask(t, sc), ask(t, roomy(t, fine))
	writeOver(sc.things, api.Thing{Card: 3, Owner: 1})
	if !got.equal(want) {
		t.Errorf("the answers are %+v now, were %+v", got, want)
	}
}

// Rule 3: behind calls that were refused all is answered as ahead of them.
func TestRefusedIsNothing(t *testing.T) {
	sc, twin := roomy(t, fine), roomy(t, fine)
	want := ask(t, sc)
	for _, other := range wrongScenes(t) {
		view.Of(sc.b, other.things)
		view.Steps(other.b, sc.things)
	}
	for _, n := range []int{-1, 0, 7, 8, 99} {
		view.Behind(sc.b, sc.things, n)
		view.Why(sc.b, sc.things, n)
	}
	wantSame(t, sc, twin)
	if !ask(t, sc).equal(want) {
		t.Error("all is told otherwise")
	}
}

// Rule 8: many may ask at the same time, of one book and the same things.
func TestManyGoroutinesAsk(t *testing.T) {
	c := &chance{43}
	sc := c.scene(t, 12, all())
	want := reckon(sc)
	var asking sync.WaitGroup
	for range 8 {
		asking.Go(func() {
			for range 5 {
				of, _ := view.Of(sc.b, sc.things)
				steps, _ := view.Steps(sc.b, sc.things)
				if !slices.Equal(of, want.of) || !slices.Equal(steps, want.steps) {
					t.Error("all is told otherwise")
				}
				writeOver(of, api.Feature{})
				writeOver(steps, api.Standing{})
			}
		})
	}
	asking.Wait()
}
