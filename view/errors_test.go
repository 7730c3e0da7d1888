package view_test

import (
	"fmt"
	"math"
	"slices"
	"testing"

	"gambit/api"
	"gambit/book"
	"gambit/view"
)

// P20.1

// asked is what the calls are handed behind the scene: Why a thing's number, Behind a layer.
type asked struct{ n, k int }

// wantRefused: these calls, or all four, are refused so, and tell nothing else.
func wantRefused(t *testing.T, sc scene, a asked, want api.Errno, calls ...string) {
	t.Helper()
	of, e1 := view.Of(sc.b, sc.things)
	behind, e2 := view.Behind(sc.b, sc.things, a.k)
	steps, e3 := view.Steps(sc.b, sc.things)
	why, e4 := view.Why(sc.b, sc.things, a.n)
	for _, r := range []struct {
		call string
		e    api.Errno
		told int
	}{{"Of", e1, len(of)}, {"Behind", e2, len(behind)}, {"Steps", e3, len(steps)}, {"Why", e4, len(why)}} {
		if len(calls) > 0 && !slices.Contains(calls, r.call) {
			continue
		}
		if r.e != want || r.told > 0 {
			t.Errorf("%s of %+v = %d and a list of %d, want %d", r.call, a, r.e, r.told, want)
		}
	}
}

// wantTaken: no call is refused, and the lists of features are as long as that of the things.
func wantTaken(t *testing.T, sc scene, n int) {
	t.Helper()
	of, e1 := view.Of(sc.b, sc.things)
	behind, e2 := view.Behind(sc.b, sc.things, 0)
	_, e3 := view.Steps(sc.b, sc.things)
	_, e4 := view.Why(sc.b, sc.things, n)
	if got := []api.Errno{e1, e2, e3, e4}; !slices.Equal(got, make([]api.Errno, 4)) {
		t.Errorf("Of, Behind, Steps, Why: %v", got)
	}
	if len(of) != len(sc.things) || len(behind) != len(sc.things) {
		t.Errorf("Of tells %d, Behind %d features of %d things", len(of), len(behind), len(sc.things))
	}
}

// sound is a scene with three things on the table and four off it, of which the first two are a spell and a relic.
func sound(t testing.TB) scene {
	t.Helper()
	return lay(t, sealed(t, soundCards()...), "giver 0 4", "stone 1 7", "plain 1 2").off(t, "zap").off(t, "stone")
}

func soundCards() []string {
	return []string{
		"plain air unit 1 2/2",
		"giver earth unit 1 2/2 | always grant all fast | always strip with fast",
		"zap fire spell 1 | played harm it 3",
		"stone gold relic 1 | always raise all 1",
	}
}

// good is what is refused of no sound scene, wrong what each call that is handed something refuses.
var (
	good  = asked{1, 3}
	wrong = asked{99, 7}
)

// nobodys has what is no book.
func nobodys() map[string]*book.Book {
	return map[string]*book.Book{"nil": nil, "a literal": {}, "new": new(book.Book)}
}

// grown is a scene with things in a deck behind it, till there are so many.
func (sc scene) grown(count int) scene {
	sc = sc.clone()
	for len(sc.things) < count {
		sc.things = append(sc.things, api.Thing{Card: 1, Place: api.Deck})
	}
	return sc
}

// filled is a scene with units of the player 1 on the table behind it, till so many things lie there.
func (sc scene) filled(count int) scene {
	sc = sc.clone()
	for i := 3; i < count; i++ {
		sc.things = append(sc.things, api.Thing{Card: 1, Owner: 1, Place: api.Table, Stamp: 100 + i})
	}
	return sc
}

// wrongScenes has each way in which a book and things do not go together, with at most 2,048 things.
func wrongScenes(t testing.TB) map[string]scene {
	scenes := map[string]scene{
		"open":                      {open(t, soundCards()...), sound(t).things},
		"open, no things":           {b: open(t, soundCards()...)},
		"open, no cards, no things": {b: book.New()},
		"sealed, no cards":          {sealed(t), sound(t).things},
		"seventeen on the table":    sound(t).filled(17),
		"2,037 on the table":        sound(t).filled(2037),
	}
	change := func(i int, what string, n int, by func(*api.Thing)) {
		sc := sound(t)
		by(&sc.things[i])
		scenes[fmt.Sprint(what, " ", n, " of the thing ", i+1)] = sc
	}
	for i, x := range sound(t).things {
		for _, n := range []int{0, -1, math.MinInt, 5, 65, 1<<32 + 1, math.MaxInt} {
			change(i, "the card", n, func(x *api.Thing) { x.Card = n })
		}
		for _, n := range []int{-1, 2, math.MinInt, math.MaxInt, 1 << 32, 1<<32 + 1} {
			change(i, "the owner", n, func(x *api.Thing) { x.Owner = n })
		}
		for _, n := range []int{0, 6, 7, 255} {
			change(i, "the place", n, func(x *api.Thing) { x.Place = api.Place(n) })
		}
		if x.Place != api.Table {
			continue
		}
		change(i, "a spell as", 3, func(x *api.Thing) { x.Card = 3 })
		for _, n := range []int{0, -1, math.MinInt} {
			change(i, "the stamp", n, func(x *api.Thing) { x.Stamp = n })
		}
		next := sound(t).things[(i+1)%3].Stamp
		change(i, "another one's stamp", next, func(x *api.Thing) { x.Stamp = next })
		for m := range x.Marks {
			for _, n := range []int{-1, 100, 101, math.MinInt, math.MaxInt, 1 << 32} {
				change(i, fmt.Sprint("of the mark ", m+1), n, func(x *api.Thing) { x.Marks[m] = n })
			}
		}
	}
	return scenes
}

func TestSoundScenesAreTaken(t *testing.T) {
	for name, sc := range map[string]scene{"sound": sound(t), "2,048 things": sound(t).grown(2048), "sixteen on the table": sound(t).filled(16)} {
		t.Run(name, func(t *testing.T) { wantTaken(t, sc, 1) })
	}
	far := sound(t)
	far.things[0].Stamp, far.things[1].Stamp, far.things[2].Stamp = math.MaxInt, math.MaxInt-1, 1
	wantTaken(t, far, 2)
	full := sound(t)
	for i := range 3 {
		full.things[i].Marks = [4]int{99, 99, 99, 99}
		full.things[i].Owner = 1 - full.things[i].Owner
	}
	wantTaken(t, full, 3)
}

// Sixteen things may all be one owner's.
func TestSixteenOfOneOwner(t *testing.T) {
	sc := sound(t).filled(16)
	sc.things[0].Owner = 1
	wantTaken(t, sc, 1)
}

// Of a thing on the table nothing else is asked than what the chapter names.
func TestOtherFieldsAreNotAsked(t *testing.T) {
	for _, n := range []int{-1, 100, math.MinInt, math.MaxInt} {
		sc := sound(t)
		for i := range sc.things {
			sc.things[i].Hurt, sc.things[i].Done, sc.things[i].Fresh = n, n, true
		}
		wantTaken(t, sc, 1)
	}
}

// Things off the table are asked neither for a stamp, nor for marks, nor for a kind, and there may be many.
func TestOffTheTableLessIsAsked(t *testing.T) {
	for _, n := range []int{0, -1, 4, 7, 100, math.MinInt, math.MaxInt} {
		sc := sound(t).grown(200)
		for i := 3; i < len(sc.things); i++ {
			sc.things[i] = api.Thing{Card: 1 + i%4, Owner: i % 2, Place: offPlaces()[i/2%4], Stamp: n, Marks: [4]int{n, -n, n, n}, Hurt: n, Done: n, Fresh: true}
		}
		wantTaken(t, sc, 3)
	}
}

func TestNoThings(t *testing.T) {
	for _, sc := range []scene{{b: sealed(t)}, {sealed(t, soundCards()...), []api.Thing{}}} {
		for k := range 7 {
			sc.wantBehind(t, k)
		}
		sc.wantOf(t)
		sc.wantSteps(t, "")
		for _, n := range []int{-1, 0, 1} {
			wantRefused(t, sc, asked{n, 7}, api.ErrMissing, "Why")
		}
	}
}

func TestWhatDoesNotGoTogether(t *testing.T) {
	for name, sc := range wrongScenes(t) {
		t.Run(name, func(t *testing.T) {
			wantRefused(t, sc, good, api.ErrArg)
			wantRefused(t, sc, wrong, api.ErrArg)
		})
	}
}

func TestMoreThan2048Things(t *testing.T) {
	scenes := wrongScenes(t)
	scenes["sound"] = sound(t)
	for name, sc := range scenes {
		t.Run(name, func(t *testing.T) {
			for _, count := range []int{2049, 5000} {
				wantRefused(t, sc.grown(count), good, api.ErrLong)
				wantRefused(t, sc.grown(count), wrong, api.ErrLong)
			}
		})
	}
	wantRefused(t, sound(t).filled(3000), good, api.ErrLong)
}

func TestNoBook(t *testing.T) {
	scenes := wrongScenes(t)
	scenes["sound"], scenes["long"], scenes["nothing"] = sound(t), sound(t).grown(2049), scene{}
	for kind, b := range nobodys() {
		for name, sc := range scenes {
			t.Run(kind+", "+name, func(t *testing.T) {
				sc.b = b
				wantRefused(t, sc, good, api.ErrNil)
				wantRefused(t, sc, wrong, api.ErrNil)
			})
		}
	}
}

func TestNoLayer(t *testing.T) {
	for _, k := range []int{7, 8, -1, -6, 255, 256, 262, math.MinInt, math.MaxInt, 1 << 32, 1<<32 + 6} {
		wantRefused(t, sound(t), asked{1, k}, api.ErrArg, "Behind")
	}
}

func TestWhyOfNoThingOnTheTable(t *testing.T) {
	sc := sound(t)
	for n := 4; n <= len(sc.things); n++ {
		wantRefused(t, sc, asked{n, 7}, api.ErrMissing, "Why")
	}
	for _, n := range []int{0, -1, -2, 12, 13, 2048, 2049, math.MinInt, math.MaxInt, 1<<32 + 1} {
		wantRefused(t, sc, asked{n, 7}, api.ErrMissing, "Why")
	}
	for n := 1; n <= 3; n++ {
		wantTaken(t, sc, n)
		for _, place := range offPlaces() {
			left := sc.clone()
			left.things[n-1].Place = place
			wantRefused(t, left, asked{n, 7}, api.ErrMissing, "Why")
		}
	}
}
