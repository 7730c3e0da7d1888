package layer_test

import (
	"testing"

	"gambit/api"
)

// P19.4

// tangleCards has relics whose effects change whom others are about, and units without parts.
func tangleCards() []api.Card {
	return []api.Card{
		unit("bear", api.Earth), with(unit("hare", api.Air), api.Fast), unit("thief", api.Void, seize(api.Theirs)),
		relic("theirs", api.Void, seize(api.Theirs)), relic("yours", api.Void, seize(api.Yours)), relic("rest", api.Void, seize(api.Rest)),
		relic("all", api.Void, seize(api.All)), relic("earth", api.Void, ofSuit(seize(0), api.Earth)), relic("fast", api.Void, ofTrait(seize(0), api.Fast)),
		relic("self", api.Void, seize(api.Self)),
		relic("paint", api.Gold, dye(api.All, api.Gold)), relic("tint", api.Gold, dye(api.Yours, api.Air)), relic("stain", api.Gold, ofTrait(dye(0, api.Fire), api.Fast)),
		relic("spur", api.Air, grant(api.All, api.Fast)), relic("mine", api.Air, grant(api.Yours, api.Fast)), relic("guard", api.Air, grant(api.All, api.Guard)),
		relic("same", api.Air, ofTrait(grant(0, 0), api.Fast)),
		relic("curb", api.Air, ofTrait(strip(0, 0), api.Fast)), relic("slow", api.Air, strip(api.All, api.Fast)), relic("bare", api.Air, strip(api.All, api.Guard)),
		relic("twin", api.Air, ofTrait(strip(0, 0), api.Fast), ofTrait(strip(0, 0), api.Fast)),
		relic("even", api.Earth, base(api.All, 1)), relic("odd", api.Earth, ofSuit(base(0, 3), api.Earth)),
		relic("up", api.Earth, raise(api.All, 1)), relic("down", api.Earth, ofTrait(raise(0, -9), api.Fast)),
	}
}

// facing is a scene with two of these relics, the first held by 0, the other one by whom is said, beside bears and hares of both.
func facing(t testing.TB, one, two string, holder int) (sc scene, s, other api.Standing) {
	t.Helper()
	sc = lay(t, sealed(t, tangleCards()...), lain{one, 0, 1}, lain{two, holder, 2}, lain{"bear", 0, 3}, lain{"bear", 1, 4}, lain{"hare", 0, 5}, lain{"hare", 1, 6})
	return sc, sc.effect(t, 1, 0), sc.effect(t, 2, 0)
}

// wantBoth: whether the first depends on the other one, and the other one on the first.
func wantBoth(t *testing.T, one, two string, holder int, forth, back bool) {
	t.Helper()
	sc, s, other := facing(t, one, two, holder)
	sc.wantDepends(t, s, other, forth)
	sc.wantDepends(t, other, s, back)
}

func TestDependsByHolder(t *testing.T) {
	wantBoth(t, "theirs", "theirs", 0, true, true)
	wantBoth(t, "theirs", "theirs", 1, true, true)
	wantBoth(t, "yours", "theirs", 0, true, false)
	wantBoth(t, "yours", "theirs", 1, true, false)
	wantBoth(t, "rest", "theirs", 1, true, false)
	wantBoth(t, "rest", "all", 0, true, false)
	wantBoth(t, "theirs", "earth", 1, true, false)
	wantBoth(t, "theirs", "fast", 0, true, false)
	wantBoth(t, "theirs", "yours", 1, false, true)
	wantBoth(t, "yours", "rest", 0, false, false)
	wantBoth(t, "yours", "rest", 1, false, false)
	wantBoth(t, "all", "all", 1, false, false)
	wantBoth(t, "earth", "all", 1, false, false)
	wantBoth(t, "fast", "earth", 1, false, false)
	wantBoth(t, "self", "all", 1, false, false)
	wantBoth(t, "self", "self", 1, false, false)
}

// Where a unit is seized whose own effect is asked: its holder is another one then.
func TestDependsByTheHolderOfItsOwnThing(t *testing.T) {
	b := sealed(t, tangleCards()...)
	sc := lay(t, b, lain{"thief", 0, 1}, lain{"thief", 1, 2})
	sc.wantDepends(t, sc.effect(t, 1, 0), sc.effect(t, 2, 0), true)
	sc.wantDepends(t, sc.effect(t, 2, 0), sc.effect(t, 1, 0), true)
	sc = lay(t, b, lain{"thief", 0, 1}, lain{"theirs", 1, 2}) // nothing to seize but the thief: it seizes nobody, be it held by 0 or, with nothing else there, by 1
	sc.wantDepends(t, sc.effect(t, 1, 0), sc.effect(t, 2, 0), false)
	sc = lay(t, b, lain{"thief", 0, 1}, lain{"theirs", 1, 2}, lain{"bear", 1, 3})
	sc.wantDepends(t, sc.effect(t, 1, 0), sc.effect(t, 2, 0), true)
}

// Features count, not owners.
func TestDependsGoesByFeatures(t *testing.T) {
	sc, s, other := facing(t, "theirs", "theirs", 1)
	for i := range sc.fs {
		sc.fs[i].Holder = 0 // the first has nobody to seize, nor has the other one
	}
	sc.wantDepends(t, s, other, false)
	sc.wantDepends(t, other, s, false)
	sc.fs[3].Holder = 1
	sc.wantDepends(t, s, other, true)
}

// Dye may not be about Dyed, so that within one layer no effect changes whom another one is about by a suit.
func TestDependsNotBySuit(t *testing.T) {
	for _, two := range [][2]string{{"paint", "paint"}, {"paint", "tint"}, {"tint", "stain"}, {"stain", "paint"}, {"stain", "stain"}} {
		for holder := range 2 {
			wantBoth(t, two[0], two[1], holder, false, false)
		}
	}
}

func TestDependsByTrait(t *testing.T) {
	for holder := range 2 {
		wantBoth(t, "curb", "spur", holder, true, false)
		wantBoth(t, "curb", "slow", holder, true, false)
		wantBoth(t, "curb", "mine", holder, true, false)
		wantBoth(t, "curb", "curb", holder, true, true)
		wantBoth(t, "same", "spur", holder, true, false)
		wantBoth(t, "same", "curb", holder, true, false) // same grants Fast to those that have it: that changes nothing
		wantBoth(t, "curb", "guard", holder, false, false)
		wantBoth(t, "curb", "bare", holder, false, false)
		wantBoth(t, "spur", "slow", holder, false, false)
		wantBoth(t, "same", "same", holder, false, false)
	}
}

// Two parts of one card are two effects.
func TestDependsOfOneCard(t *testing.T) {
	sc := lay(t, sealed(t, tangleCards()...), lain{"twin", 0, 1}, lain{"hare", 0, 2})
	sc.wantDepends(t, sc.effect(t, 1, 0), sc.effect(t, 1, 1), true)
	sc.wantDepends(t, sc.effect(t, 1, 1), sc.effect(t, 1, 0), true)
	sc.fs[1].Traits = 0
	sc.wantDepends(t, sc.effect(t, 1, 0), sc.effect(t, 1, 1), false)
}

// Numbers say of nobody whom an effect is about.
func TestDependsNotByNumbers(t *testing.T) {
	for _, two := range [][2]string{{"even", "odd"}, {"odd", "odd"}, {"up", "down"}, {"down", "down"}} {
		for holder := range 2 {
			wantBoth(t, two[0], two[1], holder, false, false)
		}
	}
}

// Another list, though as long: the king seizes the bear of 1, and, were it seized itself, the bear of 0.
func TestDependsOfListsAsLong(t *testing.T) {
	b := sealed(t, unit("king", api.Void, seize(api.Theirs)), relic("trap", api.Void, ofSuit(seize(0), api.Void)), unit("bear", api.Earth))
	sc := lay(t, b, lain{"king", 0, 1}, lain{"trap", 1, 2}, lain{"bear", 1, 3}, lain{"bear", 0, 4})
	king, trap := sc.effect(t, 1, 0), sc.effect(t, 2, 0)
	sc.wantAbout(t, king, 3)
	sc.wantDepends(t, king, trap, true)
	sc.wantDepends(t, trap, king, false)
	sc.fs[0].Holder = 1
	sc.wantAbout(t, king, 4)
	sc.wantDepends(t, king, trap, false)
}
