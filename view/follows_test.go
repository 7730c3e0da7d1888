package view_test

import (
	"cmp"
	"math"
	"slices"
	"testing"

	"gambit/api"
	"gambit/thing"
)

// P20.4

// all has parts of all layers.
func all() []string { return append(mixed(), raises()...) }

// wantAlike: two scenes with the same numbers of things tell the same.
func wantAlike(t *testing.T, sc, other scene) {
	t.Helper()
	if got, want := ask(t, other), ask(t, sc); !got.equal(want) {
		t.Errorf("of %+v: %+v, of %+v: %+v", sc.things, want, other.things, got)
	}
}

// byStamp has the places of the things on the table.
func (sc scene) byStamp() []int {
	var places []int
	for i, x := range sc.things {
		if x.Place == api.Table {
			places = append(places, i)
		}
	}
	slices.SortFunc(places, func(a, b int) int { return cmp.Compare(sc.things[a].Stamp, sc.things[b].Stamp) })
	return places
}

// restamped is a scene with other stamps, by their places in the order of stamps.
func (sc scene) restamped(by func(place int) int) scene {
	places, sc := sc.byStamp(), sc.clone()
	for place, i := range places {
		sc.things[i].Stamp = by(place)
	}
	return sc
}

func TestTheSizeOfStampsCountsForNothing(t *testing.T) {
	c := &chance{7}
	for range 40 {
		sc := c.scene(t, c.from(0, 16), all())
		wantAlike(t, sc, sc.restamped(func(place int) int { return place + 1 }))
		wantAlike(t, sc, sc.restamped(func(place int) int { return 1<<40 + 3*place }))
		wantAlike(t, sc, sc.restamped(func(place int) int { return math.MaxInt - 16 + place }))
	}
}

// The order of stamps does count.
func TestTheOrderOfStampsCounts(t *testing.T) {
	sc := lay(t, sealed(t, exampleCards()...), "thief 0 1", "thief 1 2")
	sc.wantOf(t, "0 void 1/1 -", "0 void 1/1 -")
	sc.restamped(func(place int) int { return 9 - place }).wantOf(t, "1 void 1/1 -", "1 void 1/1 -")
}

func TestHurtDoneAndFreshCountForNothing(t *testing.T) {
	c := &chance{11}
	for range 40 {
		sc := c.scene(t, c.from(0, 16), all())
		for _, n := range []int{1, 99, -1, math.MinInt, math.MaxInt} {
			other := sc.clone()
			for i := range other.things {
				x := &other.things[i]
				switch c.from(0, 3) {
				case 0:
					x.Hurt = n
				case 1:
					x.Done = n
				case 2:
					x.Fresh = true
				case 3:
					x.Hurt, x.Done, x.Fresh = n, n, true
				}
			}
			wantAlike(t, sc, other)
		}
	}
}

// Things off the table may be others, wherever they are.
func TestOtherThingsOffTheTable(t *testing.T) {
	c := &chance{17}
	for range 40 {
		sc := c.scene(t, c.from(0, 16), all())
		other := sc.clone()
		for i, x := range other.things {
			if x.Place != api.Table {
				other.things[i] = c.offThing(sc.b.Len())
			}
		}
		wantAlike(t, sc, other)
	}
}

// moved is what the calls tell of a scene whose things stand at other places: of the thing i now the thing to[i], from 0 on. Those that are not there any more, off the table all of them, have no place.
func (a answers) moved(to []int, count int) answers {
	features := func(fs []api.Feature) []api.Feature {
		list := make([]api.Feature, count)
		for i, f := range fs {
			if to[i] >= 0 {
				list[to[i]] = f
			}
		}
		return list
	}
	effects := func(l []api.Standing) []api.Standing {
		l = slices.Clone(l)
		for i := range l {
			l[i].Thing = to[l[i].Thing-1] + 1
		}
		return l
	}
	other := answers{of: features(a.of), steps: effects(a.steps), why: make([][]api.Standing, count)}
	for k, fs := range a.behind {
		other.behind[k] = features(fs)
	}
	for i, l := range a.why {
		if to[i] >= 0 {
			other.why[to[i]] = effects(l)
		}
	}
	return other
}

// wantMoved: a scene with its things at other places, and things off the table at all that are free, tells the same of each.
func wantMoved(t *testing.T, c *chance, sc scene, to []int, count int) {
	t.Helper()
	other := scene{b: sc.b}
	for range count {
		other.things = append(other.things, c.offThing(sc.b.Len()))
	}
	for i, x := range sc.things {
		if to[i] >= 0 {
			other.things[to[i]] = x
		}
	}
	if got, want := ask(t, other), ask(t, sc).moved(to, count); !got.equal(want) {
		t.Errorf("of %+v: %+v, want %+v", other.things, got, want)
	}
}

func TestThingsInAnotherOrder(t *testing.T) {
	c := &chance{13}
	for range 40 {
		sc := c.scene(t, c.from(0, 16), all())
		to := make([]int, len(sc.things))
		for i := range to {
			to[i] = i
		}
		slices.Reverse(to)
		wantMoved(t, c, sc, to, len(to))
		wantMoved(t, c, sc, shuffled(c, to), len(to))
	}
}

// Without those off the table, and with many more of them.
func TestMoreOrFewerThingsOffTheTable(t *testing.T) {
	c := &chance{19}
	for range 40 {
		sc := c.scene(t, c.from(0, 16), all())
		less, more := make([]int, len(sc.things)), make([]int, len(sc.things))
		count := 0
		for i, x := range sc.things {
			less[i], more[i] = -1, 3*i+2
			if x.Place == api.Table {
				less[i] = count
				count++
			}
		}
		wantMoved(t, c, sc, less, count)
		wantMoved(t, c, sc, more, 3*len(more)+5)
	}
}

// printed is what a thing has by its card and its marks, which are Up and Down, alone.
func (sc scene) printed(t *testing.T, i int) api.Feature {
	t.Helper()
	f, e := thing.Printed(sc.b, sc.things[i])
	if e != api.OK {
		t.Fatalf("Printed(%+v) = %d", sc.things[i], e)
	}
	on := sc.things[i].Marks
	f.Power, f.Health = max(0, f.Power+on[0]-on[1]), f.Health+on[0]-on[1]
	return f
}

func TestWithoutStandingEffects(t *testing.T) {
	c := &chance{23}
	for range 40 {
		sc := c.scene(t, c.from(0, 16), []string{"rather twice all", "begun draw you 1", "broken harm foe 2", "played harm all 1"})
		got := ask(t, sc)
		if len(got.steps) > 0 {
			t.Errorf("Steps = %+v", got.steps)
		}
		for i, x := range sc.things {
			want := api.Feature{}
			if x.Place == api.Table {
				want = sc.printed(t, i)
			}
			if got.of[i] != want || len(got.why[i]) > 0 {
				t.Errorf("the thing %d is %+v, want %+v, by %+v", i+1, got.of[i], want, got.why[i])
			}
		}
	}
}

func TestWhatWhyTellsNothingOf(t *testing.T) {
	c := &chance{29}
	count := 0
	for range 400 {
		sc := c.scene(t, c.from(1, 6), all())
		got := ask(t, sc)
		for i, x := range sc.things {
			if x.Place != api.Table || len(got.steps) == 0 || len(got.why[i]) > 0 {
				continue
			}
			count++
			if want := sc.printed(t, i); got.of[i] != want {
				t.Errorf("the thing %d is %+v, want %+v", i+1, got.of[i], want)
			}
		}
	}
	if count < 200 {
		t.Errorf("only of %d things did Why tell nothing where effects stand", count)
	}
}

// P20.5

// raised is what a unit's power is by its card, the Counts of the Raises about it and its marks, all together.
func (sc scene) raised(t *testing.T, i int, why []api.Standing) int {
	t.Helper()
	f, _ := thing.Printed(sc.b, sc.things[i])
	power := f.Power + sc.things[i].Marks[0] - sc.things[i].Marks[1]
	for _, s := range why {
		power += s.What.Count
	}
	return max(power, 0)
}

func TestUnitsWithRaisesAlone(t *testing.T) {
	c := &chance{31}
	sums, noughts := 0, 0
	for range 300 {
		sc := c.scene(t, c.from(2, 12), append(raises(), mixed()[c.from(0, len(mixed())-1)]))
		got := ask(t, sc)
		for i, x := range sc.things {
			other := func(s api.Standing) bool { return s.What.Verb != api.Raise }
			if !thing.Unit(sc.b, x) || len(got.why[i]) == 0 || slices.ContainsFunc(got.why[i], other) {
				continue
			}
			want := sc.raised(t, i, got.why[i])
			if got.of[i].Power != want {
				t.Errorf("the thing %d has the power %d, want %d, by %+v", i+1, got.of[i].Power, want, got.why[i])
			}
			if sums++; want == 0 {
				noughts++
			}
		}
	}
	if sums < 500 || noughts < 100 {
		t.Errorf("only %d units had Raises alone about them, %d of these no power", sums, noughts)
	}
}

// A power that would be below 0 on the way is no power in the end alone, whichever Raise comes first.
func TestRaisesWhateverTheOrder(t *testing.T) {
	b := sealed(t,
		"fall void relic 1 | always raise all -9",
		"rise gold relic 1 | always raise dyed 8 earth",
		"lift gold relic 1 | always raise yours 3",
		"bear earth unit 1 2/2 | always raise self -1")
	for _, stamps := range [][]int{{1, 2, 3, 4}, {4, 3, 2, 1}, {2, 4, 1, 3}, {3, 1, 4, 2}, {1, 4, 2, 3}} {
		sc := lay(t, b, "fall 1 1", "rise 1 2", "lift 0 3", "bear 0 4").restamped(func(place int) int { return stamps[place] })
		for _, c := range []struct {
			on   [4]int
			bear string
		}{
			{[4]int{}, "0 earth 3/3 -"}, // 2 - 9 + 8 + 3 - 1
			{[4]int{2}, "0 earth 5/5 -"},
			{[4]int{0, 3}, "0 earth 0/0 -"},
			{[4]int{0, 9}, "0 earth 0/-6 -"},
			{[4]int{9, 9}, "0 earth 3/3 -"},
		} {
			sc.things[3].Marks = c.on
			sc.wantOf(t, "1 void 0/0 -", "1 gold 0/0 -", "0 gold 0/0 -", c.bear)
		}
	}
}

// With other stamps, in whatever order, Raises give the same.
func TestRaisesWithStampsInAnyOrder(t *testing.T) {
	c := &chance{37}
	for range 60 {
		sc := c.scene(t, c.from(2, 16), raises())
		order := shuffled(c, []int{1, 2, 3, 4, 5, 6, 7, 8, 9, 10, 11, 12, 13, 14, 15, 16})
		other := sc.restamped(func(place int) int { return order[place] })
		if got, want := ask(t, other), ask(t, sc); !slices.Equal(got.of, want.of) {
			t.Errorf("%+v, and with other stamps %+v", want.of, got.of)
		}
	}
}
