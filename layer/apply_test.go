package layer_test

import (
	"math"
	"testing"

	"gambit/api"
	"gambit/layer"
)

// P19.3

// verbs has a card for each standing verb, each about one Whom.
func verbs() []api.Card {
	return []api.Card{
		relic("seize", api.Void, seize(api.Theirs)),
		relic("dye", api.Void, dye(api.Yours, api.Gold)),
		relic("grant", api.Void, grant(api.All, api.Drain)),
		relic("strip", api.Void, ofTrait(strip(0, 0), api.Guard)),
		relic("base", api.Void, ofSuit(base(0, 7), api.Earth)),
		relic("none", api.Void, base(api.Self, 0)),
		relic("raise", api.Void, raise(api.Theirs, 3)),
		relic("lower", api.Void, raise(api.All, -4)),
		unit("mole", api.Earth), with(unit("wall", api.Water), api.Fast, api.Guard), relic("rune", api.Earth),
		with(unit("king", api.Fire, seize(api.Rest), dye(api.Rest, api.Air), grant(api.Self, api.Swift), raise(api.Rest, 9)), api.Guard),
	}
}

// beside is a scene with one of these (held by 0), moles, walls and runes of both players, and two things off the table whose features are none.
func beside(t testing.TB, name string) scene {
	t.Helper()
	sc := lay(t, sealed(t, verbs()...), lain{"mole", 0, 9}, lain{"mole", 1, 8}, lain{"wall", 0, 7}, lain{"wall", 1, 6}, lain{"rune", 0, 5}, lain{"rune", 1, 4})
	sc.add(t, "mole", api.Thing{Place: api.Grave})
	sc.add(t, "wall", api.Thing{Owner: 1, Place: api.Hand})
	sc.fs[6] = api.Feature{Holder: 77, Suit: api.Earth, Traits: 65535, Power: 1, Health: -1}
	sc.fs[7] = api.Feature{Holder: -1, Traits: 511, Power: 2, Health: -2}
	sc.add(t, name, api.Thing{Place: api.Table, Stamp: 1})
	return sc
}

// wantChanged: Apply of the last thing's effect changes these things alone, so.
func wantChanged(t *testing.T, sc scene, place int, by func(*api.Feature), numbers ...int) {
	t.Helper()
	sc.wantApply(t, sc.effect(t, len(sc.things), place), changedAt(sc.fs, by, numbers...))
}

func TestApplyOfEachVerb(t *testing.T) {
	wantChanged(t, beside(t, "seize"), 0, func(f *api.Feature) { f.Holder = 0 }, 2, 4)
	wantChanged(t, beside(t, "dye"), 0, func(f *api.Feature) { f.Suit = api.Gold }, 1, 3)
	wantChanged(t, beside(t, "grant"), 0, func(f *api.Feature) { f.Traits |= set(api.Drain) }, 1, 2, 3, 4)
	wantChanged(t, beside(t, "strip"), 0, func(f *api.Feature) { f.Traits = set(api.Fast) }, 3, 4)
	wantChanged(t, beside(t, "base"), 0, func(f *api.Feature) { f.Power, f.Health = 7, 7 }, 1, 2)
	wantChanged(t, beside(t, "none"), 0, func(f *api.Feature) { f.Power, f.Health = 0, 0 }, 9)
	wantChanged(t, beside(t, "raise"), 0, func(f *api.Feature) { f.Power, f.Health = 5, 5 }, 2, 4)
	wantChanged(t, beside(t, "lower"), 0, func(f *api.Feature) { f.Power, f.Health = -2, -2 }, 1, 2, 3, 4)
}

// Each effect of a card by itself: the other parts do nothing.
func TestApplyOfSeveralPartsOfOneCard(t *testing.T) {
	sc := beside(t, "king")
	wantChanged(t, sc, 0, func(f *api.Feature) {}, 1, 3)
	wantChanged(t, sc, 1, func(f *api.Feature) { f.Suit = api.Air }, 1, 3)
	wantChanged(t, sc, 2, func(f *api.Feature) { f.Traits |= set(api.Swift) }, 9)
	wantChanged(t, sc, 3, func(f *api.Feature) { f.Power, f.Health = 11, 11 }, 1, 3)
}

// A thing is seized by who holds the effect's thing, whoever owns it.
func TestSeizedByTheHolder(t *testing.T) {
	sc := beside(t, "seize")
	for i := range 6 {
		sc.fs[i].Holder = i / 2 % 2 // the walls by 1, all else by 0
	}
	sc.fs[8].Holder = 1 // and so is the seizing relic
	wantChanged(t, sc, 0, func(f *api.Feature) { f.Holder = 1 }, 1, 2)
	sc.fs[8].Holder = 0
	wantChanged(t, sc, 0, func(f *api.Feature) { f.Holder = 0 }, 3, 4)
}

// What is so already stays so.
func TestApplyAgain(t *testing.T) {
	for _, name := range []string{"seize", "dye", "grant", "strip", "base", "none"} {
		sc := beside(t, name)
		s := sc.effect(t, 9, 0)
		fs, e := layer.Apply(sc.b, sc.things, sc.fs, s)
		if e != api.OK {
			t.Fatalf("Apply = %d", e)
		}
		scene{sc.b, sc.things, fs}.wantApply(t, s, fs)
	}
}

func TestEveryTraitIsGrantedAndStripped(t *testing.T) {
	for trait := api.Fast; trait <= api.Swift; trait++ {
		bit := set(trait)
		b := sealed(t, unit("giver", api.Air, grant(api.Self, trait)), unit("taker", api.Air, strip(api.Self, trait)))
		for bits := range api.Traits(256) {
			sc := lay(t, b, lain{"giver", 0, 1}, lain{"taker", 1, 2})
			sc.fs[0].Traits, sc.fs[1].Traits = bits, bits
			sc.wantApply(t, sc.effect(t, 1, 0), changedAt(sc.fs, func(f *api.Feature) { f.Traits = bits | bit }, 1))
			sc.wantApply(t, sc.effect(t, 2, 0), changedAt(sc.fs, func(f *api.Feature) { f.Traits = bits &^ bit }, 2))
		}
	}
}

func TestEverySuitIsDyed(t *testing.T) {
	for suit := api.Air; suit <= api.Gold; suit++ {
		sc := lay(t, sealed(t, unit("giver", api.Air, dye(api.Self, suit)), unit("mole", api.Earth)), lain{"giver", 0, 1}, lain{"mole", 0, 2})
		for _, had := range []api.Suit{0, 1, 2, 3, 4, 5, 6, 7, 255} {
			sc.fs[0].Suit = had
			sc.wantApply(t, sc.effect(t, 1, 0), changedAt(sc.fs, func(f *api.Feature) { f.Suit = suit }, 1))
		}
	}
}

func TestSumsGoRound(t *testing.T) {
	sc := beside(t, "raise")
	sc.fs[1].Power, sc.fs[1].Health = math.MaxInt, math.MaxInt-1
	sc.fs[3].Power, sc.fs[3].Health = math.MaxInt-3, math.MinInt
	want := changedAt(sc.fs, func(f *api.Feature) { f.Power, f.Health = math.MinInt+2, math.MinInt+1 }, 2)
	want = changedAt(want, func(f *api.Feature) { f.Power, f.Health = math.MaxInt, math.MinInt+3 }, 4)
	sc.wantApply(t, sc.effect(t, 9, 0), want)
	sc = beside(t, "lower")
	for i := range 4 {
		sc.fs[i].Power, sc.fs[i].Health = math.MinInt, math.MinInt+3
	}
	wantChanged(t, sc, 0, func(f *api.Feature) { f.Power, f.Health = math.MaxInt-3, math.MaxInt }, 1, 2, 3, 4)
}

// Base and Raise of the most that a part may say, and of the least.
func TestCountsAtTheirBounds(t *testing.T) {
	for _, count := range []int{-99, -1, 1, 99} {
		sc := lay(t, sealed(t, unit("giver", api.Air, raise(api.Self, count))), lain{"giver", 0, 1})
		wantChanged(t, sc, 0, func(f *api.Feature) { f.Power, f.Health = 2+count, 2+count }, 1)
	}
	for _, count := range []int{0, 1, 99} {
		sc := lay(t, sealed(t, unit("giver", api.Air, base(api.Self, count))), lain{"giver", 0, 1})
		wantChanged(t, sc, 0, func(f *api.Feature) { f.Power, f.Health = count, count }, 1)
	}
}

// An effect that is about nobody changes nothing.
func TestApplyToNobody(t *testing.T) {
	sc := lay(t, sealed(t, verbs()...), lain{"seize", 0, 1}, lain{"rune", 1, 2}, lain{"lower", 1, 3})
	sc.wantApply(t, sc.effect(t, 1, 0), sc.fs)
	sc.wantApply(t, sc.effect(t, 3, 0), sc.fs)
}
