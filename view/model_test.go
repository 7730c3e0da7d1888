package view_test

import (
	"fmt"
	"math"
	"slices"
	"testing"

	"gambit/api"
	"gambit/layer"
	"gambit/pile"
	"gambit/thing"
	"gambit/view"
)

// All four calls against a second reckoning, effect by effect, of scenes by chance.

// chance tells numbers out of pile's generator.
type chance struct{ state uint64 }

// from tells a number from low to high.
func (c *chance) from(low, high int) int {
	var number uint64
	number, c.state = pile.Next(c.state)
	return low + int(number%uint64(high-low+1))
}

// one tells one of a list.
func one[T any](c *chance, list []T) T { return list[c.from(0, len(list)-1)] }

// shuffled is a list in an order by chance.
func shuffled[T any](c *chance, list []T) []T {
	order := make([]int, len(list))
	for i := range order {
		order[i] = i
	}
	order, c.state = pile.Shuffle(order, c.state)
	other := make([]T, len(list))
	for to, from := range order {
		other[to] = list[from]
	}
	return other
}

// mixed has parts of all layers, many of which depend on others, and some that do not stand.
func mixed() []string {
	return []string{
		"always seize theirs", "always seize all", "always seize with fast", "always seize dyed air", "always seize self",
		"always dye yours gold", "always dye theirs air", "always dye with gold fast", "always dye all air", "always dye rest gold",
		"always grant all fast", "always grant dyed gold mute", "always grant rest guard", "always grant theirs mute", "always grant with fast",
		"always strip with fast", "always strip with mute", "always strip yours guard", "always strip self mute", "always strip with guard",
		"always base with 3 guard", "always base self 0", "always base dyed 9 gold", "always base rest 5",
		"rather twice all", "begun draw you 1", "broken harm foe 2",
	}
}

func raises() []string {
	return []string{
		"always raise all 1", "always raise yours -3", "always raise theirs -99", "always raise dyed 2 air", "always raise dyed -1 gold",
		"always raise with 4 fast", "always raise rest 7", "always raise self 5", "always raise self -2",
	}
}

// cards are units and relics by chance, each with up to four of these parts, or with none.
func (c *chance) cards(parts []string) []string {
	list := []string{"zap air spell 1", "bare air unit 1 3/1"}
	for i := range 10 {
		text := fmt.Sprintf("%c %s ", 'a'+i, one(c, []string{"air", "gold"}))
		if c.from(0, 3) == 0 {
			text += "relic 1"
		} else {
			text += fmt.Sprintf("unit 1 %d/%d", c.from(0, 9), c.from(1, 9))
		}
		text += one(c, []string{"", "", " +fast", " +guard", " +mute"})
		for range min(len(parts), c.from(0, 4)) {
			text += " | " + one(c, parts)
		}
		list = append(list, text)
	}
	return list
}

// scene lays so many things on the table, with marks, and others elsewhere, among them.
func (c *chance) scene(t testing.TB, count int, parts []string) scene {
	t.Helper()
	sc := scene{b: sealed(t, c.cards(parts)...)}
	stamps := shuffled(c, []int{1, 2, 3, 5, 8, 13, 21, 34, 55, 89, 144, 233, 377, 610, 987, math.MaxInt})
	for count > 0 {
		x := c.offThing(sc.b.Len())
		if held, _ := sc.b.At(x.Card); held.Kind != api.Spell && c.from(0, 4) > 0 {
			count--
			x.Place, x.Stamp, x.Marks = api.Table, stamps[count], one(c, [][4]int{{}, {}, {1}, {0, 3}, {2, 5, 1, 7}, {99, 0, 99, 99}})
		}
		sc.things = append(sc.things, x)
	}
	return sc
}

// offThing is a thing off the table, of one of so many cards, with whatever may stand there.
func (c *chance) offThing(cards int) api.Thing {
	return api.Thing{Card: c.from(1, cards), Owner: c.from(0, 1), Place: one(c, offPlaces()), Stamp: c.from(-1, 9), Marks: [4]int{c.from(-100, 100)}}
}

// answers is all that the calls tell of a scene: behind has the layers 0 to 6, why the things in their order, none of those off the table.
type answers struct {
	of     []api.Feature
	behind [7][]api.Feature
	steps  []api.Standing
	why    [][]api.Standing
}

// ask makes all calls that are not refused.
func ask(t testing.TB, sc scene) answers {
	t.Helper()
	var a answers
	var e api.Errno
	note := func() {
		if e != api.OK {
			t.Fatalf("refused, %d: %+v", e, sc.things)
		}
	}
	a.of, e = view.Of(sc.b, sc.things)
	note()
	for k := range a.behind {
		a.behind[k], e = view.Behind(sc.b, sc.things, k)
		note()
	}
	a.steps, e = view.Steps(sc.b, sc.things)
	note()
	a.why = make([][]api.Standing, len(sc.things))
	for i, x := range sc.things {
		if x.Place == api.Table {
			a.why[i], e = view.Why(sc.b, sc.things, i+1)
			note()
		}
	}
	return a
}

func (a answers) equal(b answers) bool {
	return slices.Equal(a.of, b.of) && slices.EqualFunc(a.behind[:], b.behind[:], slices.Equal) &&
		slices.Equal(a.steps, b.steps) && slices.EqualFunc(a.why, b.why, slices.Equal)
}

// reckon tells the same by the layers' calls for one effect at a time.
func reckon(sc scene) answers {
	a := answers{why: make([][]api.Standing, len(sc.things))}
	fs := make([]api.Feature, len(sc.things))
	for i, x := range sc.things {
		if x.Place == api.Table {
			fs[i], _ = thing.Printed(sc.b, x)
		}
	}
	a.behind[0] = fs
	for k := 1; k <= 5; k++ {
		left, _ := layer.Effects(sc.b, sc.things, fs, k)
		for len(left) > 0 {
			next, _ := layer.Next(sc.b, sc.things, fs, left)
			about, _ := layer.About(sc.b, sc.things, fs, left[next])
			for _, n := range about {
				a.why[n-1] = append(a.why[n-1], left[next])
			}
			a.steps = append(a.steps, left[next])
			fs, _ = layer.Apply(sc.b, sc.things, fs, left[next])
			left = slices.Delete(left, next, next+1)
		}
		a.behind[k] = fs
	}
	a.behind[6] = slices.Clone(fs)
	for i, x := range sc.things {
		if x.Place == api.Table { // the books of these tests have Up and Down alone
			f := &a.behind[6][i]
			f.Power, f.Health = max(0, f.Power+x.Marks[0]-x.Marks[1]), f.Health+x.Marks[0]-x.Marks[1]
		}
	}
	a.of = a.behind[6]
	return a
}

func TestAllCallsAgainstTheModel(t *testing.T) {
	c := &chance{20}
	out, below := 0, 0
	for range 20 {
		for count := range 17 {
			sc := c.scene(t, count, append(mixed(), raises()...))
			got, want := ask(t, sc), reckon(sc)
			if !got.equal(want) {
				t.Fatalf("of %+v: %+v, want %+v", sc.things, got, want)
			}
			if !slices.IsSortedFunc(got.steps, func(a, b api.Standing) int { return sc.things[a.Thing-1].Stamp - sc.things[b.Thing-1].Stamp }) {
				out++
			}
			if slices.ContainsFunc(got.behind[5], func(f api.Feature) bool { return f.Power < 0 }) {
				below++
			}
		}
	}
	if out < 100 || below < 50 {
		t.Errorf("steps were out of the order of stamps %d times, a power below 0 %d times", out, below)
	}
}
