package layer_test

import (
	"math"
	"slices"
	"strconv"
	"testing"

	"gambit/api"
	"gambit/book"
	"gambit/layer"
)

// P19.1

// asked is what the calls are handed behind the scene.
type asked struct {
	s, other api.Standing
	left     []api.Standing
	k        int
}

// reply is what a call told: its error, and whether all else is zero.
type reply struct {
	call string
	e    api.Errno
	zero bool
}

// replies makes all six calls.
func replies(sc scene, a asked) []reply {
	about, e1 := layer.About(sc.b, sc.things, sc.fs, a.s)
	apply, e2 := layer.Apply(sc.b, sc.things, sc.fs, a.s)
	depends, e3 := layer.Depends(sc.b, sc.things, sc.fs, a.s, a.other)
	next, e4 := layer.Next(sc.b, sc.things, sc.fs, a.left)
	effects, e5 := layer.Effects(sc.b, sc.things, sc.fs, a.k)
	all, applied, e6 := layer.All(sc.b, sc.things, sc.fs, a.k)
	return []reply{
		{"About", e1, len(about) == 0},
		{"Apply", e2, len(apply) == 0},
		{"Depends", e3, !depends},
		{"Next", e4, next == 0},
		{"Effects", e5, len(effects) == 0},
		{"All", e6, len(all) == 0 && len(applied) == 0},
	}
}

// wantRefused: these calls, or all six, are refused so, and tell nothing else.
func wantRefused(t *testing.T, sc scene, a asked, want api.Errno, calls ...string) {
	t.Helper()
	for _, r := range replies(sc, a) {
		if len(calls) > 0 && !slices.Contains(calls, r.call) {
			continue
		}
		if r.e != want || !r.zero {
			t.Errorf("%s = %d, all else zero: %v, want %d", r.call, r.e, r.zero, want)
		}
	}
}

func wantTaken(t *testing.T, sc scene, a asked) {
	t.Helper()
	for _, r := range replies(sc, a) {
		if r.e != api.OK {
			t.Errorf("%s = %d", r.call, r.e)
		}
	}
}

// pair is a scene with two effects of the layer 3, of which the first depends on the second, beside a unit without parts, and things off the table.
func pair(t testing.TB) (scene, asked) {
	t.Helper()
	b := sealed(t, pairCards()...)
	sc := lay(t, b, lain{"cutter", 0, 4}, lain{"giver", 1, 7}, lain{"plain", 1, 2})
	for _, place := range []api.Place{api.Deck, api.Hand, api.Stacked, api.Grave} {
		sc.add(t, "zap", api.Thing{Owner: 1, Place: place})
	}
	s, other := sc.effect(t, 1, 0), sc.effect(t, 2, 1)
	return sc, asked{s, other, []api.Standing{s, other}, 3}
}

func pairCards() []api.Card {
	return []api.Card{
		unit("plain", api.Air),
		unit("cutter", api.Earth, ofTrait(strip(0, 0), api.Fast), raise(api.All, 1)),
		unit("giver", api.Water, api.Part{When: api.Played, Verb: api.Draw, Whom: api.You, Count: 1}, grant(api.All, api.Fast), grant(api.All, api.Fast)),
		{Name: "zap", Suit: api.Fire, Kind: api.Spell, Parts: []api.Part{{When: api.Played, Verb: api.Harm, Whom: api.It, Count: 3}}},
	}
}

// wrongAsked has what is refused behind a sound scene, in each of the six calls.
func wrongAsked(a asked) asked {
	a.s.Place = 9
	a.left = []api.Standing{a.s}
	a.k = 6
	return a
}

// grown is a scene with things in a deck behind it, till there are so many.
func grown(sc scene, count int) scene {
	sc = sc.clone()
	for len(sc.things) < count {
		sc.things = append(sc.things, api.Thing{Card: 1, Place: api.Deck})
	}
	for len(sc.fs) < count {
		sc.fs = append(sc.fs, api.Feature{})
	}
	return sc
}

// wrongScenes has each way in which book, things and features do not go together, with at most 2,048 things.
func wrongScenes(t testing.TB) map[string]scene {
	sound, _ := pair(t)
	wrong := map[string]scene{}
	change := func(name string, by func(*scene)) {
		sc := sound.clone()
		by(&sc)
		wrong[name] = sc
	}
	change("open", func(sc *scene) { sc.b = open(t, pairCards()...) })
	change("open, no things", func(sc *scene) { *sc = scene{b: open(t, pairCards()...)} })
	change("open, no cards, no things", func(sc *scene) { *sc = scene{b: book.New()} })
	change("sealed, no cards", func(sc *scene) { sc.b = sealed(t) })
	change("a feature less", func(sc *scene) { sc.fs = sc.fs[:len(sc.fs)-1] })
	change("a feature more", func(sc *scene) { sc.fs = append(sc.fs, api.Feature{}) })
	change("no features", func(sc *scene) { sc.fs = nil })
	change("no things", func(sc *scene) { sc.things = nil })
	change("2,048 things, a feature more", func(sc *scene) {
		*sc = grown(*sc, api.MaxThings)
		sc.fs = append(sc.fs, api.Feature{})
	})
	for i := range sound.things {
		at := " of the thing " + strconv.Itoa(i+1)
		for _, n := range []int{0, -1, math.MinInt, 5, 65, 1<<32 + 1, math.MaxInt} {
			change("the card "+strconv.Itoa(n)+at, func(sc *scene) { sc.things[i].Card = n })
		}
		for _, n := range []int{-1, 2, math.MinInt, math.MaxInt, 1 << 32, 1<<32 + 1} {
			change("the owner "+strconv.Itoa(n)+at, func(sc *scene) { sc.things[i].Owner = n })
		}
		for _, n := range []api.Place{0, 6, 7, 255} {
			change("the place "+strconv.Itoa(int(n))+at, func(sc *scene) { sc.things[i].Place = n })
		}
	}
	for i := range 3 {
		at := " of the thing " + strconv.Itoa(i+1)
		for _, n := range []int{0, -1, math.MinInt} {
			change("the stamp "+strconv.Itoa(n)+at, func(sc *scene) { sc.things[i].Stamp = n })
		}
		change("another one's stamp"+at, func(sc *scene) { sc.things[i].Stamp = sc.things[(i+1)%3].Stamp })
		for _, n := range []int{-1, 2, math.MinInt, math.MaxInt, 1 << 32, 1<<32 + 1} {
			change("the holder "+strconv.Itoa(n)+at, func(sc *scene) { sc.fs[i].Holder = n })
		}
		for _, bits := range []api.Traits{1 << 8, 1<<8 | 1, 1 << 15, 65535} {
			change("the traits "+strconv.Itoa(int(bits))+at, func(sc *scene) { sc.fs[i].Traits = bits })
		}
	}
	for i := 3; i < len(sound.things); i++ {
		change("a spell on the table, "+strconv.Itoa(i+1), func(sc *scene) { sc.things[i].Place, sc.things[i].Stamp = api.Table, 99 })
	}
	change("seventeen on the table", func(sc *scene) { *sc = filled(*sc, 17) })
	change("2,048 on the table", func(sc *scene) { *sc = filled(*sc, api.MaxThings) })
	return wrong
}

// filled is a scene with units of the player 1 on the table behind it, till so many things lie there.
func filled(sc scene, count int) scene {
	sc = sc.clone()
	for i := 3; i < count; i++ {
		sc.things = append(sc.things, api.Thing{Card: 1, Owner: 1, Place: api.Table, Stamp: 100 + i})
		sc.fs = append(sc.fs, api.Feature{Holder: 1})
	}
	return scene{sc.b, sc.things[:min(len(sc.things), api.MaxThings)], sc.fs[:min(len(sc.fs), api.MaxThings)]}
}

func TestSoundScenesAreTaken(t *testing.T) {
	sc, a := pair(t)
	wantTaken(t, sc, a)
	wantTaken(t, grown(sc, api.MaxThings), a)
	wantTaken(t, filled(sc, 16), a)
	far := sc.clone()
	far.things[0].Stamp, far.things[1].Stamp, far.things[2].Stamp = math.MaxInt, math.MaxInt-1, 1
	wantTaken(t, far, a)
	swapped := sc.clone()
	for i := range swapped.things {
		swapped.things[i].Owner = 1 - swapped.things[i].Owner
	}
	wantTaken(t, swapped, a)
}

// Of a thing on the table nothing else is asked than what the chapter names.
func TestOtherFieldsAreNotAsked(t *testing.T) {
	sc, a := pair(t)
	for i := range 3 {
		x, f := &sc.things[i], &sc.fs[i]
		x.Hurt, x.Done, x.Marks, x.Fresh = -5, math.MaxInt, [4]int{-1, 100, math.MinInt, 7}, true
		f.Suit, f.Power, f.Health, f.Traits = api.Suit(99*i), math.MinInt, math.MaxInt, 255
	}
	wantTaken(t, sc, a)
}

// Things off the table are asked neither for a stamp, nor for a kind, nor for features, and there may be many.
func TestOffTheTableLessIsAsked(t *testing.T) {
	sc, a := pair(t)
	for _, stamp := range []int{0, -1, 4, 7, math.MinInt, math.MaxInt} {
		off := grown(sc, 200)
		for i := 3; i < len(off.things); i++ {
			off.things[i] = api.Thing{Card: 1 + i%4, Owner: i % 2, Place: []api.Place{api.Deck, api.Hand, api.Stacked, api.Grave}[i/2%4], Stamp: stamp, Hurt: -1, Done: -1, Fresh: true}
			off.fs[i] = api.Feature{Holder: 2 - i, Suit: 77, Traits: 65535, Power: i, Health: -i}
		}
		wantTaken(t, off, a)
	}
}

func TestNoThings(t *testing.T) {
	for _, sc := range []scene{{b: sealed(t)}, {b: sealed(t, pairCards()...), things: []api.Thing{}, fs: []api.Feature{}}} {
		sc.wantNext(t, nil, -1)
		for k := 1; k <= 5; k++ {
			sc.wantEffects(t, k)
			sc.wantAll(t, k, nil)
		}
		wantRefused(t, sc, asked{left: []api.Standing{{}}}, api.ErrArg)
	}
}

func TestWhatDoesNotGoTogether(t *testing.T) {
	_, a := pair(t)
	for name, sc := range wrongScenes(t) {
		t.Run(name, func(t *testing.T) {
			wantRefused(t, sc, a, api.ErrArg)
			wantRefused(t, sc, wrongAsked(a), api.ErrArg)
			a.left = nil
			wantRefused(t, sc, a, api.ErrArg)
		})
	}
}

func TestMoreThan2048Things(t *testing.T) {
	sound, a := pair(t)
	scenes := wrongScenes(t)
	scenes["sound"] = sound
	for name, sc := range scenes {
		t.Run(name, func(t *testing.T) {
			for _, count := range []int{2049, 3000} {
				long := grown(sc, count)
				wantRefused(t, long, a, api.ErrLong)
				wantRefused(t, long, wrongAsked(a), api.ErrLong)
				long.fs = nil
				wantRefused(t, long, a, api.ErrLong)
			}
		})
	}
	long := grown(sound, 2049)
	long.things = long.things[:2048]
	wantRefused(t, long, a, api.ErrArg)
}

func TestNoBook(t *testing.T) {
	sound, a := pair(t)
	scenes := wrongScenes(t)
	scenes["sound"], scenes["long"], scenes["nothing"] = sound, grown(sound, 2049), scene{}
	for kind, b := range nobodys() {
		for name, sc := range scenes {
			t.Run(kind+", "+name, func(t *testing.T) {
				sc.b = b
				wantRefused(t, sc, a, api.ErrNil)
				wantRefused(t, sc, wrongAsked(a), api.ErrNil)
				wantRefused(t, sc, asked{}, api.ErrNil)
			})
		}
	}
}

// mayNotBe has effects of pair's scene that may not be.
func mayNotBe(t testing.TB, sc scene) []api.Standing {
	whole := sc.effect(t, 2, 1)
	var list []api.Standing
	change := func(s api.Standing, by func(*api.Standing)) {
		by(&s)
		list = append(list, s)
	}
	for _, n := range []int{0, -1, 8, 9, 2048, math.MinInt, math.MaxInt, 1<<32 + 2} {
		change(whole, func(s *api.Standing) { s.Thing = n })
	}
	for n := 1; n <= len(sc.things); n++ {
		if n != 2 {
			change(whole, func(s *api.Standing) { s.Thing = n })
		}
	}
	for _, place := range []int{0, -1, 3, 4, math.MinInt, math.MaxInt, 1 << 32} {
		change(whole, func(s *api.Standing) { s.Place = place })
	}
	for _, by := range []func(*api.Part){
		func(p *api.Part) { p.When = api.Rather },
		func(p *api.Part) { p.Verb = api.Strip },
		func(p *api.Part) { p.Whom = api.Yours },
		func(p *api.Part) { p.Count = 1 },
		func(p *api.Part) { p.Suit = api.Air },
		func(p *api.Part) { p.Trait = api.Swift },
		func(p *api.Part) { p.Mark = api.Up },
		func(p *api.Part) { p.Name = "x" },
		func(p *api.Part) { *p = api.Part{} },
	} {
		change(whole, func(s *api.Standing) { by(&s.What) })
	}
	for _, n := range []int{4, 5, 6, 7} { // off the table
		list = append(list, sc.effect(t, n, 0))
	}
	// One that is there, but does not stand; two parts of one card, exchanged; nothing at all.
	return append(list, sc.effect(t, 2, 0), api.Standing{Thing: 1, Place: 1, What: sc.effect(t, 1, 0).What}, api.Standing{Thing: 1, Place: 0, What: sc.effect(t, 1, 1).What}, api.Standing{})
}

func TestEffectsThatMayNotBe(t *testing.T) {
	sc, a := pair(t)
	good := sc.effect(t, 1, 0)
	for _, s := range mayNotBe(t, sc) {
		wantRefused(t, sc, asked{s: s, other: good, left: []api.Standing{s}}, api.ErrArg)
		wantRefused(t, sc, asked{s: good, other: s, left: []api.Standing{good, s}}, api.ErrArg, "Depends", "Next")
		wantRefused(t, sc, asked{s: s, other: s, left: []api.Standing{s, good}}, api.ErrArg, "About", "Apply", "Depends", "Next")
		wantRefused(t, sc, asked{left: []api.Standing{good, a.other, s}}, api.ErrArg, "Next")
	}
}

// What stood on the table, and does not any more.
func TestEffectOfAThingThatLeft(t *testing.T) {
	sc, a := pair(t)
	for _, place := range []api.Place{api.Deck, api.Hand, api.Stacked, api.Grave} {
		left := sc.clone()
		left.things[0].Place = place
		wantRefused(t, left, a, api.ErrArg, "About", "Apply", "Depends", "Next")
		left = sc.clone()
		left.things[1].Place = place
		wantRefused(t, left, a, api.ErrArg, "Depends", "Next")
		left.wantAbout(t, a.s)
	}
}

func TestEffectsThatCannotBeListed(t *testing.T) {
	sc, a := pair(t)
	five := sc.effect(t, 1, 1)
	for _, two := range [][2]api.Standing{{a.s, five}, {five, a.s}, {five, a.other}, {a.other, five}, {a.s, a.s}, {a.other, a.other}, {five, five}} {
		wantRefused(t, sc, asked{s: two[0], other: two[1], left: two[:]}, api.ErrArg, "Depends", "Next")
	}
	third := sc.effect(t, 2, 2)
	if third.What != a.other.What {
		t.Errorf("%+v and %+v ought to be one part at two places", third, a.other)
	}
	sc.wantDepends(t, third, a.other, false)
	sc.wantNext(t, []api.Standing{third, a.s, a.other}, 2)
	for _, left := range [][]api.Standing{{a.s, a.other, a.s}, {a.s, a.other, a.other}, {third, a.s, five}, {a.s, a.other, third, a.s}, {five, a.s, third}} {
		wantRefused(t, sc, asked{left: left}, api.ErrArg, "Next")
	}
}

// A list of effects may be very long: it is refused, and soon.
func TestLongListOfEffects(t *testing.T) {
	sc, a := pair(t)
	for _, s := range []api.Standing{a.s, {}} {
		wantRefused(t, sc, asked{left: slices.Repeat([]api.Standing{s}, 1<<20)}, api.ErrArg, "Next")
	}
}

func TestNoLayer(t *testing.T) {
	sc, a := pair(t)
	for _, k := range []int{0, 6, 7, -1, -5, 255, 257, math.MinInt, math.MaxInt, 1<<32 + 1} {
		a.k = k
		wantRefused(t, sc, a, api.ErrArg, "Effects", "All")
	}
}

// Both kinds of faults at once: the first that the chapter names is told.
func TestTheFirstFaultIsTold(t *testing.T) {
	sc, a := pair(t)
	long := grown(sc, 2049)
	long.things[0].Card, long.fs[1].Holder = 99, 5
	wantRefused(t, long, wrongAsked(a), api.ErrLong)
	long.b = open(t, pairCards()...)
	wantRefused(t, long, wrongAsked(a), api.ErrLong)
	long.b = nil
	wantRefused(t, long, wrongAsked(a), api.ErrNil)
	wrong := sc.clone()
	wrong.b = nil
	wrong.things[0].Card = 0
	wantRefused(t, wrong, wrongAsked(a), api.ErrNil)
}
