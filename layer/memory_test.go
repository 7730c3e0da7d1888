package layer_test

import (
	"slices"
	"sync"
	"testing"

	"gambit/api"
	"gambit/book"
	"gambit/layer"
)

// Rule 4: what was handed in stays, and may be written over; each answer is new memory.

// roomy is a list with spare room behind it, in which something else stands.
func roomy[T any](l []T, behind T) []T {
	room := append(slices.Clone(l), slices.Repeat([]T{behind}, 8)...)
	return room[:len(l)]
}

// roomOf is a list with its spare room.
func roomOf[T any](l []T) []T { return l[:cap(l)] }

// writeOver writes something into a list, its spare room too.
func writeOver[T any](l []T, with T) {
	for i := range roomOf(l) {
		roomOf(l)[i] = with
	}
}

// wantEmptyRoom: nothing stands in an answer's spare room.
func wantEmptyRoom[T comparable](t *testing.T, l []T) {
	t.Helper()
	var zero T
	for _, x := range roomOf(l)[len(l):] {
		if x != zero {
			t.Errorf("%+v stands in an answer's spare room", x)
		}
	}
}

// given is all that the calls are handed, its lists with spare room.
type given struct {
	scene
	asked
}

func roomyPair(t testing.TB) given {
	t.Helper()
	sc, a := pair(t)
	sc.things = roomy(sc.things, api.Thing{Card: 1, Place: api.Table, Stamp: 3})
	sc.fs = roomy(sc.fs, api.Feature{Holder: 1, Suit: api.Gold, Traits: 255})
	a.left = roomy(a.left, sc.effect(t, 2, 2))
	return given{sc, a}
}

// wantSame: two, its book and its lists with their spare room, are the same.
func wantSame(t *testing.T, a, b given) {
	t.Helper()
	if !slices.Equal(roomOf(a.things), roomOf(b.things)) || !slices.Equal(roomOf(a.fs), roomOf(b.fs)) || !slices.Equal(roomOf(a.left), roomOf(b.left)) {
		t.Errorf("what was handed in is %+v, want %+v", a, b)
	}
	if !book.Same(a.b, b.b) {
		t.Error("the book was changed")
	}
}

func TestWhatIsHandedInStays(t *testing.T) {
	g, twin := roomyPair(t), roomyPair(t)
	wantTaken(t, g.scene, g.asked)
	wantSame(t, g, twin)
	replies(g.scene, wrongAsked(g.asked)) // refused
	wantSame(t, g, twin)
	for range 3 {
		slices.Reverse(g.left)
		slices.Reverse(twin.left)
		replies(g.scene, g.asked)
		wantSame(t, g, twin)
	}
}

// A wrong thing in the spare room of a list is no thing of it.
func TestSpareRoomIsNotRead(t *testing.T) {
	g := roomyPair(t)
	writeOver(roomOf(g.things)[len(g.things):], api.Thing{Card: -1, Place: 9})
	writeOver(roomOf(g.fs)[len(g.fs):], api.Feature{Holder: 9})
	writeOver(roomOf(g.left)[len(g.left):], api.Standing{Thing: -1})
	wantTaken(t, g.scene, g.asked)
	plain, a := pair(t)
	if !tell(g.scene).equal(tell(plain)) {
		t.Error("what stands in the spare room is told")
	}
	if next, e := layer.Next(g.b, g.things, g.fs, g.left); e != api.OK || next != 1 {
		t.Errorf("Next = %d, %d", next, e)
	}
	plain.wantNext(t, a.left, 1)
}

// Each list that is answered may be written over: what was handed in stays, and so do all other answers.
func TestAnswersAreNewMemory(t *testing.T) {
	g, twin := roomyPair(t), roomyPair(t)
	want := tell(g.scene)
	one, two := tell(g.scene), tell(g.scene)
	for i := range one.about {
		wantEmptyRoom(t, one.about[i])
		writeOver(one.about[i], -7)
	}
	for i := range one.fs {
		wantEmptyRoom(t, one.fs[i])
		writeOver(one.fs[i], api.Feature{Holder: -7})
	}
	for i := range one.effects {
		wantEmptyRoom(t, one.effects[i])
		writeOver(one.effects[i], api.Standing{Thing: -7})
	}
	wantSame(t, g, twin)
	if !two.equal(want) || !tell(g.scene).equal(want) {
		t.Error("an answer shares memory with another one")
	}
}

// The lists of one answer of All, where nothing is changed and where something is.
func TestBothListsOfAllAreNewMemory(t *testing.T) {
	for k := 1; k <= 5; k++ {
		g, twin := roomyPair(t), roomyPair(t)
		fs, effects, _ := layer.All(g.b, g.things, g.fs, k)
		wantFs, want := slices.Clone(fs), slices.Clone(effects)
		writeOver(g.things, api.Thing{Card: 3})
		writeOver(g.fs, api.Feature{Power: -7})
		if !slices.Equal(fs, wantFs) || !slices.Equal(effects, want) {
			t.Errorf("All(%d) told %+v, %+v, which are %+v, %+v now", k, wantFs, want, fs, effects)
		}
		writeOver(fs, api.Feature{Power: -8})
		if !slices.Equal(effects, want) || !book.Same(g.b, twin.b) {
			t.Errorf("All(%d): the effects are %+v, want %+v", k, effects, want)
		}
	}
}

// An effect that is about nobody, or that changes nothing: the features are new all the same.
func TestUnchangedFeaturesAreNewMemory(t *testing.T) {
	sc := tangle(t, lain{"self", 0, 1}, lain{"earth", 0, 2})
	before := slices.Clone(sc.fs)
	for n := 1; n <= 2; n++ {
		fs, e := layer.Apply(sc.b, sc.things, sc.fs, sc.effect(t, n, 0))
		if e != api.OK || !slices.Equal(fs, before) {
			t.Errorf("Apply = %+v, %d", fs, e)
		}
		writeOver(fs, api.Feature{Holder: -7})
	}
	for k := 1; k <= 5; k++ {
		fs, _, _ := layer.All(sc.b, sc.things, sc.fs, k)
		writeOver(fs, api.Feature{Holder: -7})
	}
	if !slices.Equal(sc.fs, before) {
		t.Errorf("the features are %+v, want %+v", sc.fs, before)
	}
}

// Rule 3: behind calls that were refused all is answered as ahead of them.
func TestRefusedIsNothing(t *testing.T) {
	g, twin := roomyPair(t), roomyPair(t)
	want := tell(g.scene)
	for _, sc := range wrongScenes(t) {
		sc.b = g.b
		replies(sc, g.asked)
	}
	for _, s := range mayNotBe(t, g.scene) {
		replies(g.scene, asked{s: s, other: s, left: []api.Standing{s}, k: 9})
	}
	wantSame(t, g, twin)
	if !tell(g.scene).equal(want) {
		t.Error("all is told otherwise")
	}
}

// Rule 8: many may ask at the same time, of one book and the same lists.
func TestManyGoroutinesAsk(t *testing.T) {
	c := &chance{43}
	sc := c.scene(t, 12)
	want := tell(sc)
	var all sync.WaitGroup
	for range 8 {
		all.Go(func() {
			for range 10 {
				got := tell(sc)
				if !got.equal(want) {
					t.Error("all is told otherwise")
				}
				for i := range got.fs {
					writeOver(got.fs[i], api.Feature{})
				}
			}
		})
	}
	all.Wait()
}
