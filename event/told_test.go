package event_test

import (
	"slices"
	"testing"

	"gambit/api"
	"gambit/event"
)

// P22.2, and what all calls tell of none.

// State tells each field as it was handed in, and as many features as there are things, zero off the table.
func TestStateAndFeatures(t *testing.T) {
	sc := sound(t).by(func(s *api.State) {
		s.Life, s.Mana, s.Most, s.Nothing = [2]int{-7, 30}, [2]int{1, 2}, [2]int{3, 4}, [2]int{5, 6}
		s.Turn, s.Phase, s.Word, s.Passes, s.Actions, s.Over, s.Winner = 1, api.Fight, 0, 1, 4096, true, 2
	})
	w := sc.world(t)
	sc.wantWorld(t, w, sc.s, 0)
	want := make([]api.Feature, 13)
	want[0] = api.Feature{Suit: api.Air, Power: 0, Health: 0} // one Up and two Down
	want[1] = api.Feature{Holder: 1, Suit: api.Fire, Power: 1, Health: 1}
	want[2] = api.Feature{Suit: api.Gold}
	if got := w.Features(); !slices.Equal(got, want) {
		t.Errorf("Features() = %+v, want %+v", got, want)
	}
}

// The fields that no call of the package changes stay behind each that changes another one.
func TestFieldsThatStay(t *testing.T) {
	sc := sound(t).by(func(s *api.State) {
		s.Most, s.Turn, s.Phase, s.Word, s.Passes, s.Actions, s.Over, s.Winner = [2]int{7, 8}, 1, api.Fight, 0, 1, 99, true, 1
	})
	sc.wantDo(t, gain(-1, 2), 1+1, func(s *api.State) {
		s.Mana[0] = 5
		come(s, 1, api.Grave) // no health is left of it
	})
}

func TestFeaturesOfNoThings(t *testing.T) {
	sc := table(t)
	if fs := sc.world(t).Features(); len(fs) > 0 {
		t.Errorf("Features() = %+v", fs)
	}
}

// Features are what view tells now, whatever was done: what stands comes and goes, marks do, holders do.
func TestFeaturesAreThoseOfNow(t *testing.T) {
	sc := table(t, "ox 0 table", "crown 0 stack", "ox 1 table", "thief 0 stack", "hush 1 hand")
	w := sc.world(t)
	step := func(e api.Errno, power, other, holder int) {
		t.Helper()
		fs := w.Features()
		if e != api.OK || fs[0].Power != power || fs[2].Power != other || fs[2].Holder != holder {
			t.Errorf("%d: the oxen are %+v, %+v, want power %d, %d held by %d", e, fs[0], fs[2], power, other, holder)
		}
	}
	step(api.OK, 1, 1, 1)
	_, e := w.Come(2)
	step(e, 2, 1, 1)
	_, e = w.Come(4)
	step(e, 2, 2, 0)
	step(w.Do(put(1, 3, api.Up)), 5, 2, 0)
	step(w.Do(put(3, 1, api.Down)), 5, 1, 0)
	step(w.Do(back(4)), 5, 0, 1)
	step(w.Do(breaking(2)), 4, 0, 1)
	step(w.Do(call(-1, 1, "crown")), 5, 0, 1)
	if got := len(w.Features()); got != 6 {
		t.Errorf("there are %d features", got)
	}
	step(w.Do(back(6)), 4, 0, 1)
}

func TestBeginAndCount(t *testing.T) {
	sc := table(t, "ox 0 table")
	w := sc.world(t)
	for moment := range 3 {
		for count := range 5 {
			if w.Count() != count {
				t.Errorf("moment %d: Count() = %d, want %d", moment, w.Count(), count)
			}
			w.Do(harm(-1, 1))
		}
		w.Begin()
		w.Begin()
	}
	// The other calls begin no moment.
	w.Do(harm(-1, 1))
	w.Do(harm(99, 1))
	w.Do(harm(-1, 0))
	w.Come(1)
	w.Take()
	w.Push(nil)
	w.Settle()
	w.State()
	w.Features()
	if w.Count() != 1 {
		t.Errorf("Count() = %d", w.Count())
	}
}

// nones are worlds that New did not make.
func nones() map[string]*event.World {
	return map[string]*event.World{"nil": nil, "a literal": {}, "new": new(event.World)}
}

func TestNoWorld(t *testing.T) {
	for name, w := range nones() {
		t.Run(name, func(t *testing.T) {
			for range 2 {
				wantNoWorld(t, w)
			}
		})
	}
}

// wantNoWorld makes each call of a world that is none, with what a world would take and with what none would.
func wantNoWorld(t *testing.T, w *event.World) {
	t.Helper()
	for _, d := range []api.Deed{{}, harm(-1, 1), harm(1, 1), harm(-1, 0), call(-1, 1, "bear"), call(-1, 1, "x"), breaking(-1)} {
		if e := w.Do(d); e != api.ErrNil {
			t.Errorf("Do(%+v) = %d", d, e)
		}
	}
	for _, n := range []int{0, 1, -1} {
		if came, e := w.Come(n); came || e != api.ErrNil {
			t.Errorf("Come(%d) = %v, %d", n, came, e)
		}
	}
	for _, l := range [][]api.Item{nil, {}, {{Thing: 1, Part: 1}}, {{}}} {
		if e := w.Push(l); e != api.ErrNil {
			t.Errorf("Push(%v) = %d", l, e)
		}
	}
	if i, came, ok := w.Take(); i != (api.Item{}) || came || ok {
		t.Errorf("Take() = %v, %v, %v", i, came, ok)
	}
	w.Begin()
	w.Settle()
	if s, fs := w.State(), w.Features(); !sameState(s, api.State{}) || len(fs) > 0 || w.Count() != 0 {
		t.Errorf("State() = %+v, Features() = %+v, Count() = %d", s, fs, w.Count())
	}
}
