package swap_test

import (
	"fmt"
	"math"
	"slices"
	"testing"

	"gambit/api"
	"gambit/swap"
	"gambit/view"
	"gambit/whole"
)

// P21.6

// All uses each swap once at most, each of them one of List's.
func TestEachSwapOnceAtMost(t *testing.T) {
	c := &chance{66}
	most := 0
	for range 60 {
		sc := c.scene(t, c.from(8, 16))
		list, _ := swap.List(sc.b, sc.things, sc.fs)
		for _, h := range c.events(sc) {
			told, e := swap.All(sc.b, sc.things, sc.fs, h)
			if e != api.OK {
				t.Fatalf("All(%+v) = %d", h, e)
			}
			most = max(most, len(told.Used))
			for i, s := range told.Used {
				if !slices.Contains(list, s) || slices.Contains(told.Used[:i], s) {
					t.Errorf("All(%+v) uses %q, of %q", h, pairs(told.Used), pairs(list))
				}
			}
		}
	}
	if most < 8 {
		t.Errorf("at most %d swaps were used", most)
	}
}

// full is a table with sixteen things of four swaps each, that turn a harm to and fro.
func full(t testing.TB) scene {
	t.Helper()
	b := sealed(t, "glass water relic 1 | rather turned you | rather turned foe | rather twice you | rather twice foe")
	var table []string
	for i := range 16 {
		table = append(table, fmt.Sprint("glass ", i%2, " ", 100-i, " 0"))
	}
	return lay(t, b, table...)
}

// Sixty-four swaps, of which each may bring another one in: the event ends.
func TestEventsEnd(t *testing.T) {
	sc := full(t)
	for on := -2; on < 0; on++ {
		told, e := swap.All(sc.b, sc.things, sc.fs, harm(on, 1))
		if e != api.OK || told.After.Verb != api.Harm || told.After.Count != 9999 || len(told.Used) < 32 || len(told.Used) > 64 {
			t.Errorf("All(%d) = %+v, %d", on, told, e)
		}
		if want := (model{sc}).swapped(harm(on, 1)); !same(told, want) {
			t.Errorf("All(%d) = %+v, want %+v", on, told, want)
		}
	}
}

// Where no swap stands All tells an event itself, to the last field.
func TestWithoutSwapsAnEventIsItself(t *testing.T) {
	b := sealed(t, "stone gold relic 1 | always raise all 1 | broken draw you 1", "rock earth unit 1 1/9 | begun harm all 1", "quiet void unit 1 1/1 +mute | rather twice all | rather turned you | rather instead all 1")
	sc := lay(t, b, "stone 0 1 9", "rock 1 2 0", "quiet 0 3 0").off(t, "quiet")
	sc.wantList(t, "")
	for _, n := range []int{1, 2, 9999} {
		for _, h := range []api.Happening{harm(-2, n), harm(-1, n), harm(1, n), harm(2, n), harm(3, n), breaking(1), breaking(2), breaking(3), drawing(-1), drawing(-2)} {
			sc.wantAll(t, h, h, "", 0)
			h.Holder, h.Venom, h.Drain = -n, true, n == 2
			if h.Verb != api.Harm {
				h.Count = math.MaxInt - n
			}
			sc.wantAll(t, h, h, "", 0)
			sc.wantNext(t, h, nil, none, "")
		}
	}
}

// An event that no swap is about is itself, too, wherever swaps stand.
func TestEventsThatNoSwapIsAbout(t *testing.T) {
	sc, _ := busy(t)
	for _, h := range []api.Happening{harm(3, 5), breaking(1)} {
		h.Holder, h.Drain = 1, true
		sc.wantAll(t, h, h, "", 0)
	}
}

// Of all traits Mute alone counts, but for swaps about With.
func TestMuteAloneCounts(t *testing.T) {
	sc := example(t)
	events := []api.Happening{harm(-1, 3), harm(-2, 5), harm(4, 3), harm(4, 1), harm(3, 7), harm(1, 7), breaking(2), breaking(4), drawing(-1)}
	var want []api.Swapped
	for _, h := range events {
		told, _ := swap.All(sc.b, sc.things, sc.fs, h)
		want = append(want, told)
	}
	for bits := range api.Traits(256) {
		other := sc.clone()
		for i := range other.fs {
			other.fs[i].Traits = bits &^ set(api.Mute)
		}
		other.wantList(t, "1.2 2.1 3.0 3.1")
		for i, h := range events {
			other.wantSwapped(t, h, want[i])
		}
		for i := range other.fs {
			other.fs[i].Traits = bits | set(api.Mute)
		}
		other.wantList(t, "")
		other.wantAll(t, harm(-2, 5), harm(-2, 5), "", 0)
	}
}

// Owners, Hurt, Done, Fresh, other marks, power and health count for nothing, and of stamps their order alone.
func TestWhatElseCountsForNothing(t *testing.T) {
	c := &chance{77}
	for range 40 {
		sc := c.scene(t, c.from(0, 16))
		other := sc.clone()
		for i := range other.things {
			x, f := &other.things[i], &other.fs[i]
			x.Owner, x.Hurt, x.Done, x.Fresh = 1-x.Owner, c.from(-9, 9), c.from(-9, 9), !x.Fresh
			x.Marks[0], x.Marks[1], x.Marks[3] = c.from(-9, 9), c.from(-9, 9), c.from(-9, 9)
			f.Power, f.Health = c.from(-9, 9), c.from(-9, 9)
			if x.Place != api.Table {
				x.Stamp, x.Marks[2], *f = 3, 9, api.Feature{Holder: 7, Traits: 65535}
			} else if x.Stamp == math.MaxInt {
				x.Stamp = 5000
			} else {
				x.Stamp = 3*x.Stamp + 1
			}
		}
		list, _ := swap.List(sc.b, sc.things, sc.fs)
		other.wantList(t, pairs(list))
		for _, h := range c.events(sc) {
			told, _ := swap.All(sc.b, sc.things, sc.fs, h)
			other.wantSwapped(t, h, told)
		}
	}
}

// The features may be those that view tells: what is seized turns to its new holder's foe.
func TestByTheViewsFeatures(t *testing.T) {
	b := sealed(t,
		"thief void unit 1 1/1 | always seize theirs",
		"siren water unit 1 2/2 | rather turned you | rather less yours 1",
		"null void relic 1 | always grant theirs mute",
	)
	sc := lay(t, b, "thief 1 1 0", "siren 0 2 0")
	sc.wantAll(t, harm(-1, 3), harm(-2, 3), "2.0", 0)
	sc.wantAll(t, harm(1, 3), harm(1, 3), "", 0)
	sc.fs = viewed(t, sc)
	sc.wantAll(t, harm(-1, 3), harm(-1, 3), "", 0)
	sc.wantAll(t, harm(-2, 3), harm(-1, 3), "2.0", 0)
	sc.wantAll(t, harm(1, 3), harm(1, 2), "2.1", 0)
	sc = sc.with(t, "null", api.Thing{Place: api.Table, Stamp: 3})
	sc.fs = viewed(t, sc)
	sc.wantList(t, "")
	sc.wantAll(t, harm(-2, 3), harm(-2, 3), "", 0)
}

// DOC.md's seventh and ninth examples of the whole, in the book of the six suits.
func TestExamplesOfTheWhole(t *testing.T) {
	sc := lay(t, whole.Book(), "rampart 0 1 0", "golem 0 2 0", "kite 1 3 0", "hollow 1 4 0")
	sc.fs = viewed(t, sc)
	sc.wantAll(t, harm(2, 3), harm(2, 2), "1.2", 0)
	sc.wantAll(t, harm(-1, 3), harm(-1, 6), "4.0", 0)
	sc.wantAll(t, harm(-2, 3), harm(-1, 6), "4.1 4.0", 0)
	sc.wantAll(t, harm(3, 3), harm(3, 3), "", 0)
	sc.wantAll(t, breaking(2), breaking(2), "", 0)
	sc.things[1].Marks[api.Shield-1] = 1
	sc.wantAll(t, breaking(2), none, "2.1", 1)
}

// viewed is what view tells of a scene's things.
func viewed(t *testing.T, sc scene) []api.Feature {
	t.Helper()
	fs, e := view.Of(sc.b, sc.things)
	if e != api.OK {
		t.Fatalf("Of = %d", e)
	}
	return fs
}
