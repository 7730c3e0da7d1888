package layer_test

import (
	"testing"

	"gambit/api"
	"gambit/book"
	"gambit/layer"
)

// P19.2

// crowdCards has a unit and a relic with a Raise of each Whom, and plain ones.
func crowdCards() []api.Card {
	first := []api.Part{raise(api.Self, 1), raise(api.Yours, 1), raise(api.Theirs, 1), raise(api.All, 1)}
	second := []api.Part{raise(api.Rest, 1), ofSuit(raise(0, 1), api.Earth), ofTrait(raise(0, 1), api.Guard)}
	return []api.Card{
		unit("lion", api.Earth, first...), unit("wolf", api.Fire, second...),
		relic("lamp", api.Earth, first...), with(relic("vase", api.Fire, second...), api.Guard),
		unit("mole", api.Earth), with(unit("wall", api.Water), api.Fast, api.Guard),
		relic("rune", api.Earth), {Name: "zap", Suit: api.Earth, Kind: api.Spell},
	}
}

// crowd is a scene of these, in which stamps and numbers go unlike ways, with things off the table among them. By stamps: 8 wall (0), 7 mole (1), 6 rune (0), 5 vase (1), 3 lamp (0), 2 wolf (1), 1 lion (0).
func crowd(t testing.TB) scene {
	t.Helper()
	sc := lay(t, sealed(t, crowdCards()...), lain{"lion", 0, 90}, lain{"wolf", 1, 80}, lain{"lamp", 0, 70})
	sc.add(t, "mole", api.Thing{Place: api.Grave, Stamp: 75})
	for i, x := range []lain{{"vase", 1, 50}, {"rune", 0, 40}, {"mole", 1, 30}, {"wall", 0, 20}} {
		sc.add(t, x.name, api.Thing{Owner: x.owner, Place: api.Table, Stamp: x.stamp, Hurt: i})
	}
	sc.add(t, "wall", api.Thing{Place: api.Hand})
	sc.add(t, "zap", api.Thing{Place: api.Deck})
	return sc
}

func TestAboutOfEachWhom(t *testing.T) {
	sc := crowd(t)
	for place, want := range [][]int{{1}, {8, 1}, {7, 2}, {8, 7, 2, 1}} { // of the lion
		sc.wantAbout(t, sc.effect(t, 1, place), want...)
	}
	for place, want := range [][]int{{7}, {7, 1}, {8}} { // of the wolf
		sc.wantAbout(t, sc.effect(t, 2, place), want...)
	}
	for place, want := range [][]int{{3}, {8, 1}, {7, 2}, {8, 7, 2, 1}} { // of the lamp
		sc.wantAbout(t, sc.effect(t, 3, place), want...)
	}
	for place, want := range [][]int{{7, 2}, {7, 1}, {8}} { // of the vase
		sc.wantAbout(t, sc.effect(t, 5, place), want...)
	}
}

// Features count, not owners nor cards.
func TestAboutGoesByFeatures(t *testing.T) {
	sc := crowd(t)
	sc.fs[0].Holder, sc.fs[1].Holder, sc.fs[6].Holder, sc.fs[4].Holder = 1, 0, 0, 0
	sc.fs[0].Suit, sc.fs[1].Suit, sc.fs[7].Suit = api.Void, api.Earth, api.Earth
	sc.fs[7].Traits, sc.fs[6].Traits, sc.fs[1].Traits = set(api.Fast), set(api.Mute, api.Guard), 255
	for place, want := range [][]int{{1}, {1}, {8, 7, 2}, {8, 7, 2, 1}} { // of the lion, held by 1
		sc.wantAbout(t, sc.effect(t, 1, place), want...)
	}
	for place, want := range [][]int{{8, 7}, {8, 7, 2}, {7, 2}} { // of the wolf, held by 0
		sc.wantAbout(t, sc.effect(t, 2, place), want...)
	}
	for place, want := range [][]int{{3}, {8, 7, 2}, {1}, {8, 7, 2, 1}} { // of the lamp, held by 0
		sc.wantAbout(t, sc.effect(t, 3, place), want...)
	}
	for place, want := range [][]int{{8, 7, 2}, {8, 7, 2}, {7, 2}} { // of the vase, held by 0
		sc.wantAbout(t, sc.effect(t, 5, place), want...)
	}
}

// A relic is held, dyed and granted like a unit, but no effect of another one is about it.
func TestAboutOfRelics(t *testing.T) {
	sc := crowd(t)
	for i := range sc.fs {
		sc.fs[i] = api.Feature{Suit: api.Earth, Traits: 255}
	}
	units := []int{8, 7, 2, 1}
	for place, want := range [][]int{{3}, units, nil, units} {
		sc.wantAbout(t, sc.effect(t, 3, place), want...)
	}
	for place, want := range [][]int{units, units, units} {
		sc.wantAbout(t, sc.effect(t, 5, place), want...)
	}
	sc.wantAbout(t, sc.effect(t, 2, 0), 8, 7, 1)
}

// Each suit and each trait, by itself.
func TestAboutOfEachSuitAndTrait(t *testing.T) {
	var dyes, grants []api.Card
	for n := range 6 {
		dyes = append(dyes, relic("d"+string(rune('a'+n)), api.Air, ofSuit(base(0, 1), api.Suit(1+n))))
	}
	for n := range 8 {
		grants = append(grants, relic("t"+string(rune('a'+n)), api.Air, ofTrait(base(0, 1), api.Trait(1+n))))
	}
	b := sealed(t, append(append(dyes, grants...), unit("mole", api.Earth), unit("rat", api.Earth))...)
	for n, c := range dyes {
		for suit := range 9 {
			sc := lay(t, b, lain{c.Name, 0, 3}, lain{"mole", 1, 2}, lain{"rat", 0, 1})
			sc.fs[1].Suit = api.Suit(suit)
			sc.fs[2].Suit = 0
			if suit == n+1 {
				sc.wantAbout(t, sc.effect(t, 1, 0), 2)
			} else {
				sc.wantAbout(t, sc.effect(t, 1, 0))
			}
		}
	}
	for n, c := range grants {
		for bits := range 256 {
			sc := lay(t, b, lain{c.Name, 0, 3}, lain{"mole", 1, 2}, lain{"rat", 0, 1})
			sc.fs[1].Traits = api.Traits(bits)
			sc.fs[2].Traits = set(api.Trait(1 + n))
			if bits>>n&1 == 1 {
				sc.wantAbout(t, sc.effect(t, 1, 0), 3, 2)
			} else {
				sc.wantAbout(t, sc.effect(t, 1, 0), 3)
			}
		}
	}
}

// Mute things' effects are not listed, but they may be asked.
func TestAboutOfAMuteThing(t *testing.T) {
	sc := crowd(t)
	for i := range sc.fs {
		sc.fs[i].Traits |= set(api.Mute)
	}
	sc.wantAbout(t, sc.effect(t, 1, 1), 8, 1)
	sc.wantAbout(t, sc.effect(t, 1, 2), 7, 2)
}

// No card of a book has a standing part about You, Foe or It, so that an effect with one may not be.
func TestAboutOfAnotherWhom(t *testing.T) {
	sc := crowd(t)
	for _, w := range []api.Whom{api.You, api.Foe, api.It, 0, 11, 255} {
		p := raise(w, 1)
		if e := book.New().Card(unit("mole", api.Earth, p)); e == api.OK {
			t.Errorf("a book takes the part %+v", p)
		}
		if got, e := layer.About(sc.b, sc.things, sc.fs, api.Standing{Thing: 1, What: p}); e != api.ErrArg || len(got) > 0 {
			t.Errorf("About of the whom %d = %v, %d", w, got, e)
		}
	}
}

// Sixteen lions of one owner, in an order of stamps that is not that of their numbers.
func TestAboutOfTheFullTable(t *testing.T) {
	var table []lain
	rising := make([]int, 16)
	for i := range 16 {
		stamp := 1 + (i*5+3)%16
		table = append(table, lain{"lion", 0, stamp})
		rising[stamp-1] = i + 1
	}
	sc := lay(t, sealed(t, crowdCards()...), table...)
	for n := 1; n <= 16; n++ {
		sc.wantAbout(t, sc.effect(t, n, 0), n)
		sc.wantAbout(t, sc.effect(t, n, 1), rising...)
		sc.wantAbout(t, sc.effect(t, n, 2))
		sc.wantAbout(t, sc.effect(t, n, 3), rising...)
	}
}
