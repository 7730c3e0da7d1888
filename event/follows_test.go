package event_test

import (
	"math"
	"testing"

	"gambit/api"
	"gambit/event"
	"gambit/swap"
	"gambit/view"
	"gambit/whole"
)

// P22.7, where no walk of the model goes, and P1.

// A Harm of n, without swaps, of a unit without Shield makes its Hurt n more, or it is gone.
func TestHarmWithoutSwaps(t *testing.T) {
	c := &chance{7}
	stood, gone := 0, 0
	for range 150 {
		sc := c.scene(t, 25)
		fs, _ := view.Of(sc.b, sc.s.Things)
		for i, x := range sc.s.Things {
			card, _ := sc.b.At(x.Card)
			h := api.Happening{Verb: api.Harm, On: i + 1, Count: c.from(1, 6)}
			if x.Place != api.Table || card.Kind != api.Unit {
				continue
			}
			if told, _ := swap.All(sc.b, sc.s.Things, fs, h); told.After != h {
				continue
			}
			w := sc.world(t)
			w.Do(harm(i+1, h.Count))
			switch now := w.State().Things[i]; {
			case now.Place == api.Grave:
				gone++
			case now.Place == api.Table && now.Hurt == x.Hurt+h.Count:
				stood++
			default:
				t.Errorf("the thing %d was %+v, and is %+v behind a harm of %d", i+1, x, now, h.Count)
			}
		}
	}
	if stood < 50 || gone < 50 {
		t.Errorf("too little was there: %d stood, %d are gone", stood, gone)
	}
}

// From 900000000 on a whole moment keeps the state within what may be.
func TestFarOffTheStateMayBe(t *testing.T) {
	const far = 900000000
	sc := table(t, "golem 0 table", "ox 1 table", "curse 1 table").by(func(s *api.State) {
		s.Life, s.Nothing, s.Stamp = [2]int{-far, -far}, [2]int{far, far}, far
		s.Things[0].Stamp, s.Things[1].Stamp, s.Things[2].Stamp = far-1, far-2, far-3
	})
	for _, d := range []api.Deed{draw(-1, 9999), draw(-2, 9999), drop(-1, 9999), call(-1, 9999, "ox"), call(-2, 9999, "moth"), harm(-1, 9999), drain(harm(-1, 9999)), mend(-1, 9999)} {
		w := sc.world(t)
		for w.Count() < 256 {
			if e := w.Do(d); e != api.OK {
				t.Fatalf("Do(%+v) = %d", d, e)
			}
		}
		if s := w.State(); !event.May(sc.b, s) || s.Life[0] > 30 {
			t.Errorf("behind %+v the state may not be:\n%s", d, told(s))
		}
	}
	// No event but a harm lays Hurt on a unit, and where none is left to settle it stands.
	w := table(t, "ox 0 table").world(t)
	spend(t, w, 255)
	w.Do(harm(1, 9999))
	if s := w.State(); !event.May(sc.b, s) || s.Things[0].Hurt != 9999 {
		t.Errorf("the state is\n%s", told(s))
	}
}

// Worlds know nothing of each other, be they of one book and one state, or of one another's.
func TestTwoWorlds(t *testing.T) {
	sc := sound(t)
	one, two := sc.world(t), sc.world(t)
	for _, d := range []api.Deed{harm(2, 1), draw(-1, 2), call(-1, 1, "wolf"), put(3, 5, api.Up), gain(-1, 3), drop(-2, 1)} {
		one.Do(d)
	}
	one.Come(4)
	one.Take()
	sc.wantWorld(t, two, sc.s, 0)
	third, e := event.New(sc.b, one.State())
	if e != api.OK {
		t.Fatalf("New = %d", e)
	}
	state, count := one.State(), one.Count()
	third.Do(harm(-1, 3))
	third.Do(back(3))
	third.Take()
	two.Do(harm(-2, 3))
	two.Begin()
	sc.wantWorld(t, one, state, count)
}

// A world made of what a world tells goes on as that one does.
func TestAWorldOfWhatAWorldTells(t *testing.T) {
	c := &chance{40}
	for range 20 {
		sc := c.scene(t, 25)
		one := sc.world(t)
		for range 30 {
			two, e := event.New(sc.b, one.State())
			if e != api.OK {
				t.Fatalf("New = %d", e)
			}
			d := c.deed(&model{sc.b, one.State(), 0, &seen{}})
			one.Begin()
			if a, b := one.Do(d), two.Do(d); a != b {
				t.Errorf("Do(%+v) = %d, %d", d, a, b)
			}
			sc.wantWorld(t, two, one.State(), one.Count())
		}
	}
}

// DOC.md's examples 7 and 9, with the book of the six suits.
func TestExamplesOfTheWhole(t *testing.T) {
	sc := lay(t, whole.Book(), "rampart 0 table", "golem 0 table", "kite 1 table", "hollow 1 table")
	sc.wantDo(t, harm(2, 3), 1, hurt(2, 2))
	sc.wantDo(t, harm(-1, 3), 1, life(0, -6))
	sc.wantDo(t, harm(-2, 3), 1, life(0, -6))
	sc.by(shields(2, 1)).wantDo(t, breaking(2), 1, shields(2, 0))
	// The golem is 5/6 beside the rampart: without health it breaks, but for its Shield.
	lame := sc.by(all(shields(2, 1), hurt(2, 6)))
	lame.wantDo(t, gain(-1, 0), 3, grave(2))
	w := lame.world(t)
	w.Settle()
	lame.wantWorld(t, w, lame.by(grave(2)).s, 2)
}

// Every call ends and none panics, at numbers far out of all bounds (P1).
func TestCalm(t *testing.T) {
	far := []int{math.MinInt, math.MinInt + 1, -10000, -3, -2, -1, 0, 1, 2, 14, 2049, math.MaxInt - 1, math.MaxInt}
	sc := sound(t)
	w := sc.world(t)
	for _, on := range far {
		for _, n := range far {
			for v := range 21 {
				w.Begin()
				w.Do(api.Deed{Verb: api.Verb(v), On: on, Count: n, Mark: api.Mark(v % 6), Name: "moth", Holder: on, Venom: true, Drain: true})
			}
			w.Push([]api.Item{{Thing: on, Part: n, Holder: n, Meant: on}})
			event.May(sc.b, api.State{Things: []api.Thing{{Card: n, Owner: on, Place: api.Place(n), Stamp: on, Hurt: n, Done: on}}, Decks: [2][]int{{n}, {on}}, Hands: [2][]int{{on}, {n}}, Stack: []api.Item{{Thing: n, Part: on, Holder: on, Meant: n}}, Turn: n, Stamp: on})
		}
		w.Come(on)
	}
	if s := w.State(); !event.May(sc.b, s) {
		t.Errorf("the state may not be:\n%s", told(s))
	}
}
