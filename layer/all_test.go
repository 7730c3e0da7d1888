package layer_test

import (
	"testing"

	"gambit/api"
	"gambit/whole"
)

// P19.6

// heralds has parts of each standing verb, with parts that do not stand among them.
func heralds() []api.Card {
	return []api.Card{
		unit("ant", api.Air, raise(api.Self, 1), api.Part{When: api.Rather, Verb: api.Less, Whom: api.Self, Count: 1}, seize(api.Self), dye(api.Self, api.Air)),
		relic("bee", api.Air, grant(api.All, api.Fast), base(api.All, 2), api.Part{When: api.Begun, Verb: api.Draw, Whom: api.You, Count: 1}, strip(api.All, api.Guard)),
		relic("cat", api.Air, raise(api.All, 1), raise(api.All, 1), raise(api.Yours, -1), raise(api.Theirs, 2)),
		unit("dog", api.Air), {Name: "zap", Suit: api.Air, Kind: api.Spell},
	}
}

// procession is a scene of these, in which stamps and numbers go unlike ways.
func procession(t testing.TB) scene {
	t.Helper()
	sc := lay(t, sealed(t, heralds()...), lain{"cat", 0, 50}, lain{"bee", 1, 40}, lain{"ant", 0, 30}, lain{"dog", 1, 20})
	for _, place := range []api.Place{api.Deck, api.Hand, api.Stacked, api.Grave} {
		sc.add(t, "cat", api.Thing{Place: place, Stamp: 7})
	}
	sc.add(t, "bee", api.Thing{Place: api.Table, Stamp: 10})
	return sc
}

func TestEffectsOfEachLayer(t *testing.T) {
	sc := procession(t)
	sc.wantEffects(t, 1, [2]int{3, 2})
	sc.wantEffects(t, 2, [2]int{3, 3})
	sc.wantEffects(t, 3, [2]int{9, 0}, [2]int{9, 3}, [2]int{2, 0}, [2]int{2, 3})
	sc.wantEffects(t, 4, [2]int{9, 1}, [2]int{2, 1})
	sc.wantEffects(t, 5, [2]int{3, 0}, [2]int{1, 0}, [2]int{1, 1}, [2]int{1, 2}, [2]int{1, 3})
}

// Mute by its features, not by its card.
func TestEffectsOfMuteThings(t *testing.T) {
	sc := procession(t)
	sc.fs[8].Traits = set(api.Mute)
	sc.fs[0].Traits = 255
	sc.fs[2].Traits = set(api.Fast, api.Guard, api.Venom, api.Lone, api.Drain, api.Fixed, api.Swift)
	sc.wantEffects(t, 1, [2]int{3, 2})
	sc.wantEffects(t, 3, [2]int{2, 0}, [2]int{2, 3})
	sc.wantEffects(t, 4, [2]int{2, 1})
	sc.wantEffects(t, 5, [2]int{3, 0})
	b := sealed(t, with(unit("hush", api.Void, raise(api.Self, 1)), api.Mute))
	mute := lay(t, b, lain{"hush", 0, 1}, lain{"hush", 1, 2})
	mute.wantEffects(t, 5)
	mute.wantAll(t, 5, mute.fs)
	mute.fs[1].Traits = 0
	mute.wantEffects(t, 5, [2]int{2, 0})
}

// The most effects that there may be: four of each of sixteen things.
func TestTheMostEffects(t *testing.T) {
	b := sealed(t, unit("rat", api.Earth, raise(api.All, 1), raise(api.Self, 2), raise(api.All, 3), raise(api.All, -1)))
	var table []lain
	var want [][2]int
	for i := range 16 {
		table = append(table, lain{"rat", i % 2, 100 - i})
	}
	for n := 16; n >= 1; n-- {
		for place := range 4 {
			want = append(want, [2]int{n, place})
		}
	}
	sc := lay(t, b, table...)
	sc.wantEffects(t, 5, want...)
	for i := range sc.fs {
		sc.fs[i].Power, sc.fs[i].Health = i, -i
	}
	raised := sc.clone().fs
	for i := range raised {
		raised[i].Power += 3*16 + 2
		raised[i].Health += 3*16 + 2
	}
	sc.wantAll(t, 5, raised, want...)
}

// The most effects, each of which depends on all the others, till one is applied.
func TestTheMostThatDepend(t *testing.T) {
	curb := ofTrait(strip(0, 0), api.Fast)
	b := sealed(t, with(unit("rat", api.Earth, curb, curb, curb, curb), api.Fast))
	var table []lain
	var want [][2]int
	for i := range 16 {
		table = append(table, lain{"rat", i % 2, i + 1})
		for place := range 4 {
			want = append(want, [2]int{i + 1, place})
		}
	}
	sc := lay(t, b, table...)
	slow := changedAt(sc.fs, func(f *api.Feature) { f.Traits = 0 }, 1, 2, 3, 4, 5, 6, 7, 8, 9, 10, 11, 12, 13, 14, 15, 16)
	sc.wantAll(t, 3, slow, want...)
}

// The order is unlike that of Effects, since the first depends on another one: guard is the first that is free, then spur; then same depends on curb, which is free.
func TestAllInAnotherOrder(t *testing.T) {
	sc := tangle(t, lain{"curb", 0, 1}, lain{"bear", 0, 2}, lain{"guard", 0, 3}, lain{"spur", 0, 4}, lain{"same", 1, 5})
	sc.wantEffects(t, 3, [2]int{1, 0}, [2]int{3, 0}, [2]int{4, 0}, [2]int{5, 0})
	want := changedAt(sc.fs, func(f *api.Feature) { f.Traits = set(api.Guard) }, 2)
	sc.wantAll(t, 3, want, [2]int{3, 0}, [2]int{4, 0}, [2]int{1, 0}, [2]int{5, 0})
}

// An effect is about those that it is about when it is applied, not when the layer begins: each depends on another one, so they come in their order, and the last seizes what the second did.
func TestAllGoesByFeaturesAsTheyAreThen(t *testing.T) {
	sc := tangle(t, lain{"yours", 0, 1}, lain{"theirs", 0, 2}, lain{"bear", 1, 3}, lain{"bear", 0, 4}, lain{"theirs", 1, 5})
	sc.wantDepends(t, sc.effect(t, 1, 0), sc.effect(t, 2, 0), true)
	sc.wantDepends(t, sc.effect(t, 2, 0), sc.effect(t, 5, 0), true)
	sc.wantDepends(t, sc.effect(t, 5, 0), sc.effect(t, 2, 0), true)
	sc.wantAll(t, 1, changedAt(sc.fs, func(f *api.Feature) { f.Holder = 1 }, 3, 4), [2]int{1, 0}, [2]int{2, 0}, [2]int{5, 0})
}

// What depends when the layer begins may be free later on: behind spur all are Fast, so that curb depends on mine no more.
func TestAllFreesWhatDepended(t *testing.T) {
	sc := tangle(t, lain{"curb", 0, 1}, lain{"spur", 0, 2}, lain{"mine", 0, 3}, lain{"bear", 0, 4}, lain{"bear", 1, 5})
	sc.wantDepends(t, sc.effect(t, 1, 0), sc.effect(t, 3, 0), true)
	sc.wantAll(t, 3, changedAt(sc.fs, func(f *api.Feature) { f.Traits = set(api.Fast) }, 4), [2]int{2, 0}, [2]int{1, 0}, [2]int{3, 0})
}

// And what is free may depend later on: behind earth 0 holds a bear, so that yours depends on theirs.
func TestAllBindsWhatWasFree(t *testing.T) {
	sc := tangle(t, lain{"yours", 0, 1}, lain{"theirs", 1, 2}, lain{"earth", 0, 3}, lain{"bear", 1, 4})
	sc.wantDepends(t, sc.effect(t, 1, 0), sc.effect(t, 2, 0), false)
	sc.wantAll(t, 1, sc.fs, [2]int{3, 0}, [2]int{2, 0}, [2]int{1, 0})
}

// Where each player has a unit that seizes Theirs, the one with the lesser stamp is first: the other one is held by the foe when its turn comes.
func TestAllOfACircle(t *testing.T) {
	sc := tangle(t, lain{"thief", 0, 7}, lain{"thief", 1, 3}, lain{"bear", 0, 1}, lain{"bear", 1, 2})
	one := func(f *api.Feature) { f.Holder = 1 }
	nought := func(f *api.Feature) { f.Holder = 0 }
	sc.wantAll(t, 1, changedAt(sc.fs, one, 1, 3), [2]int{2, 0}, [2]int{1, 0})
	sc.things[0].Stamp = 2
	sc.things[3].Stamp = 9
	sc.wantAll(t, 1, changedAt(sc.fs, nought, 2, 4), [2]int{1, 0}, [2]int{2, 0})
}

// Effects are asked once, when the layer begins: who gets Mute in the layer keeps its effects in it, and who loses it gets none.
func TestEffectsAreAskedOnce(t *testing.T) {
	b := sealed(t,
		unit("hush", api.Void, grant(api.Rest, api.Mute)),
		unit("loud", api.Void, strip(api.Theirs, api.Mute)),
		unit("more", api.Air, grant(api.Self, api.Swift), raise(api.Self, 2)))
	sc := lay(t, b, lain{"hush", 0, 1}, lain{"more", 0, 2}, lain{"loud", 0, 3}, lain{"more", 1, 4})
	sc.fs[3].Traits = set(api.Mute)
	want := changedAt(sc.fs, func(f *api.Feature) { f.Traits = set(api.Mute, api.Swift) }, 2)
	want = changedAt(want, func(f *api.Feature) { f.Traits = set(api.Mute) }, 3)
	want = changedAt(want, func(f *api.Feature) { f.Traits = 0 }, 4)
	behind := sc.wantAll(t, 3, want, [2]int{1, 0}, [2]int{2, 0}, [2]int{3, 0})
	sc.wantEffects(t, 5, [2]int{2, 1})
	behind.wantEffects(t, 5, [2]int{4, 1})
	behind.wantEffects(t, 3, [2]int{1, 0}, [2]int{4, 0})
}

// A layer without effects changes nothing.
func TestAllOfNone(t *testing.T) {
	sc := crowd(t)
	for k := 1; k <= 4; k++ {
		sc.wantAll(t, k, sc.fs)
	}
}

// Features off the table are told as they were handed in.
func TestAllKeepsWhatIsOffTheTable(t *testing.T) {
	sc := beside(t, "lower")
	sc.wantAll(t, 5, changedAt(sc.fs, func(f *api.Feature) { f.Power, f.Health = -2, -2 }, 1, 2, 3, 4), [2]int{9, 0})
	sc.things[8].Place = api.Grave
	for k := 1; k <= 5; k++ {
		sc.wantAll(t, k, sc.fs)
	}
}

// DOC.md's examples 6 and 8, of the book of the six suits.
func TestAllOfTheSixSuits(t *testing.T) {
	sc := lay(t, whole.Book(), lain{"rampart", 0, 1}, lain{"golem", 0, 2}, lain{"kite", 1, 3})
	guards := changedAt(sc.fs, func(f *api.Feature) { f.Traits |= set(api.Guard) }, 2)
	behind := sc.wantAll(t, 3, guards, [2]int{1, 1})
	behind.wantAll(t, 5, changedAt(guards, func(f *api.Feature) { f.Power, f.Health = 5, 6 }, 2), [2]int{1, 0})
	sc.add(t, "midas", api.Thing{Place: api.Table, Stamp: 4})
	dyed := changedAt(sc.fs, func(f *api.Feature) { f.Suit = api.Gold }, 2, 3, 4)
	behind = sc.wantAll(t, 2, dyed, [2]int{4, 0})
	behind.wantAll(t, 5, dyed, [2]int{1, 0})
	behind.wantAbout(t, behind.effect(t, 1, 0))
}
