package layer_test

import (
	"math"
	"slices"
	"testing"

	"gambit/api"
	"gambit/layer"
)

// P19.7

// told is all that the calls tell of a scene: of each layer's effects, and of these one by one and two by two.
type told struct {
	about   [][]int
	fs      [][]api.Feature
	depends []bool
	next    []int
	effects [][]api.Standing
	errs    []api.Errno
}

func tell(sc scene) told {
	var all told
	note := func(e api.Errno) { all.errs = append(all.errs, e) }
	for k := 1; k <= 5; k++ {
		effects, e := layer.Effects(sc.b, sc.things, sc.fs, k)
		note(e)
		fs, applied, e := layer.All(sc.b, sc.things, sc.fs, k)
		note(e)
		next, e := layer.Next(sc.b, sc.things, sc.fs, effects)
		note(e)
		all.effects = append(all.effects, effects, applied)
		all.fs, all.next = append(all.fs, fs), append(all.next, next)
		for i, s := range effects {
			about, e := layer.About(sc.b, sc.things, sc.fs, s)
			note(e)
			fs, e := layer.Apply(sc.b, sc.things, sc.fs, s)
			note(e)
			depends, e := layer.Depends(sc.b, sc.things, sc.fs, s, effects[(i+1)%len(effects)])
			note(e)
			all.about, all.fs, all.depends = append(all.about, about), append(all.fs, fs), append(all.depends, depends)
		}
	}
	return all
}

func (a told) equal(b told) bool {
	return slices.EqualFunc(a.about, b.about, slices.Equal) && slices.EqualFunc(a.fs, b.fs, slices.Equal) &&
		slices.Equal(a.depends, b.depends) && slices.Equal(a.next, b.next) &&
		slices.EqualFunc(a.effects, b.effects, slices.Equal) && slices.Equal(a.errs, b.errs)
}

// restamped is a scene with other stamps, in the same order.
func restamped(sc scene, by func(place int) int) scene {
	sc = sc.clone()
	for place, n := range (model{sc}).byStamp() {
		sc.things[n-1].Stamp = by(place)
	}
	return sc
}

func TestTheSizeOfStampsCountsForNothing(t *testing.T) {
	c := &chance{7}
	for range 150 {
		sc := c.scene(t, c.from(0, 16))
		want := tell(sc)
		for _, by := range []func(int) int{
			func(place int) int { return place + 1 },
			func(place int) int { return 1<<40 + 3*place },
			func(place int) int { return math.MaxInt - 16 + place },
		} {
			if got := tell(restamped(sc, by)); !got.equal(want) {
				t.Errorf("with other stamps: %+v, want %+v", got, want)
			}
		}
	}
}

// The order of stamps does count.
func TestTheOrderOfStampsCounts(t *testing.T) {
	sc := tangle(t, lain{"thief", 0, 1}, lain{"thief", 1, 2})
	if tell(sc).equal(tell(restamped(sc, func(place int) int { return 9 - place }))) {
		t.Error("the other order tells the same")
	}
}

func TestHurtDoneFreshAndMarksCountForNothing(t *testing.T) {
	c := &chance{11}
	for range 150 {
		sc := c.scene(t, c.from(0, 16))
		want := tell(sc)
		for _, n := range []int{1, 99, 100, -1, math.MinInt, math.MaxInt} {
			other := sc.clone()
			for i := range other.things {
				x := &other.things[i]
				switch c.from(0, 4) {
				case 0:
					x.Hurt = n
				case 1:
					x.Done = n
				case 2:
					x.Fresh = true
				case 3:
					x.Marks[c.from(0, 3)] = n
				case 4:
					x.Hurt, x.Done, x.Fresh, x.Marks = n, n, true, [4]int{n, n, n, n}
				}
			}
			if got := tell(other); !got.equal(want) {
				t.Errorf("with other harm and marks: %+v, want %+v", got, want)
			}
		}
	}
}

// Owners count by the features' holders alone, which are handed in.
func TestOwnersCountForNothing(t *testing.T) {
	c := &chance{13}
	for range 100 {
		sc := c.scene(t, c.from(0, 16))
		other := sc.clone()
		for i := range other.things {
			other.things[i].Owner = 1 - other.things[i].Owner
		}
		if !tell(sc).equal(tell(other)) {
			t.Error("with other owners all is told otherwise")
		}
	}
}

// Things off the table count for nothing, but for their numbers.
func TestOffTheTableNothingCounts(t *testing.T) {
	c := &chance{17}
	for range 100 {
		sc := c.scene(t, c.from(0, 16))
		other := sc.clone()
		for i := range other.things {
			if other.things[i].Place != api.Table {
				other.things[i] = api.Thing{Card: c.from(1, sc.b.Len()), Owner: c.from(0, 1), Place: one(c, api.Deck, api.Hand, api.Stacked, api.Grave), Stamp: c.from(-2, 20)}
			}
		}
		if !tell(sc).equal(tell(other)) {
			t.Error("with other things off the table all is told otherwise")
		}
	}
}

func TestAllAnswersEffectsEachOnce(t *testing.T) {
	c := &chance{23}
	for range 200 {
		sc := c.scene(t, c.from(0, 16))
		for k := 1; k <= 5; k++ {
			effects, _ := layer.Effects(sc.b, sc.things, sc.fs, k)
			_, applied, e := layer.All(sc.b, sc.things, sc.fs, k)
			m := model{sc}
			sorted := slices.Clone(applied)
			slices.SortFunc(sorted, m.compare)
			if e != api.OK || !slices.Equal(sorted, effects) {
				t.Errorf("All(%d) applies %+v, %d; Effects are %+v", k, applied, e, effects)
			}
		}
	}
}

func TestAboutRises(t *testing.T) {
	c := &chance{29}
	for range 200 {
		sc := c.scene(t, c.from(0, 16))
		for k := 1; k <= 5; k++ {
			effects, _ := layer.Effects(sc.b, sc.things, sc.fs, k)
			for _, s := range effects {
				numbers, _ := layer.About(sc.b, sc.things, sc.fs, s)
				for i := 1; i < len(numbers); i++ {
					if sc.things[numbers[i-1]-1].Stamp >= sc.things[numbers[i]-1].Stamp {
						t.Errorf("About = %v of %+v", numbers, sc.things)
					}
				}
			}
		}
	}
}

func TestApplyChangesNothingElse(t *testing.T) {
	c := &chance{31}
	for range 200 {
		sc := c.scene(t, c.from(0, 16))
		for i := range sc.fs {
			if sc.things[i].Place != api.Table {
				sc.fs[i] = api.Feature{Holder: -i, Suit: 9, Traits: 65535, Power: i, Health: -i}
			}
		}
		for k := 1; k <= 5; k++ {
			effects, _ := layer.Effects(sc.b, sc.things, sc.fs, k)
			for _, s := range effects {
				numbers, _ := layer.About(sc.b, sc.things, sc.fs, s)
				fs, _ := layer.Apply(sc.b, sc.things, sc.fs, s)
				for i, f := range sc.fs {
					if !slices.Contains(numbers, i+1) && fs[i] != f {
						t.Errorf("Apply(%+v), about %v, makes of the thing %d %+v, which was %+v", s, numbers, i+1, fs[i], f)
					}
				}
			}
		}
	}
}

// applied is a scene with an effect applied.
func applied(t testing.TB, sc scene, s api.Standing) scene {
	t.Helper()
	fs, e := layer.Apply(sc.b, sc.things, sc.fs, s)
	if e != api.OK {
		t.Fatalf("Apply(%+v) = %d", s, e)
	}
	return scene{sc.b, sc.things, fs}
}

// Two Raises come to the same in either order, their sums going round or not.
func TestTwoRaisesInEitherOrder(t *testing.T) {
	c := &chance{37}
	count := 0
	for range 300 {
		sc := c.scene(t, c.from(4, 16))
		raises, _ := layer.Effects(sc.b, sc.things, sc.fs, 5)
		for i, s := range raises {
			other := raises[(i+1)%len(raises)]
			if other == s {
				continue
			}
			count++
			sc.wantDepends(t, s, other, false)
			forth := applied(t, applied(t, sc, s), other)
			applied(t, sc, other).wantApply(t, s, forth.fs)
		}
	}
	if count < 200 {
		t.Errorf("only %d times were there two Raises", count)
	}
}

// dependence tells whether of these effects one depends on another one.
func dependence(sc scene, effects []api.Standing) bool {
	for _, s := range effects {
		for _, other := range effects {
			if depends, _ := layer.Depends(sc.b, sc.things, sc.fs, s, other); depends {
				return true
			}
		}
	}
	return false
}

// Where none depends on another one, at no time, All goes in the order of effects.
func TestAllInTheOrderOfEffects(t *testing.T) {
	c := &chance{41}
	count := 0
	for range 300 {
		sc := c.scene(t, c.from(0, 8))
		for k := 1; k <= 5; k++ {
			effects, _ := layer.Effects(sc.b, sc.things, sc.fs, k)
			now, free := sc, true
			for i, s := range effects {
				free = free && !dependence(now, effects[i:])
				now = applied(t, now, s)
			}
			if free && len(effects) > 1 {
				count++
				sc.wantAll(t, k, now.fs, pairs(effects)...)
			}
		}
	}
	if count < 200 {
		t.Errorf("only %d times did none depend on another one", count)
	}
}
