package swap_test

import (
	"fmt"
	"math"
	"testing"

	"gambit/api"
	"gambit/book"
	"gambit/swap"
)

// P21.1

// wantAllRefused: All is refused so, and Swaps and Next tell false, and nothing else.
func wantAllRefused(t *testing.T, sc scene, s api.Standing, h api.Happening, want api.Errno) {
	t.Helper()
	if got, e := swap.All(sc.b, sc.things, sc.fs, h); e != want || !same(got, api.Swapped{}) {
		t.Errorf("All(%+v) = %+v, %d, want %d", h, got, e, want)
	}
	if swap.Swaps(sc.b, sc.things, sc.fs, s, h) {
		t.Errorf("Swaps(%+v, %+v) = true", s, h)
	}
	if got, by, ok := swap.Next(sc.b, sc.things, sc.fs, h, nil); got != none || by != (api.Standing{}) || ok {
		t.Errorf("Next(%+v) = %+v, %+v, %v", h, got, by, ok)
	}
}

// wantRefused: List is refused so, and All of an event that might be, and of one that might not.
func wantRefused(t *testing.T, sc scene, want api.Errno) {
	t.Helper()
	if got, e := swap.List(sc.b, sc.things, sc.fs); e != want || len(got) > 0 {
		t.Errorf("List = %+v, %d, want %d", got, e, want)
	}
	s := api.Standing{Thing: 1, Place: 1, What: api.Part{When: api.Rather, Verb: api.Twice, Whom: api.Foe}}
	for _, h := range []api.Happening{harm(-1, 3), harm(-2, 3), harm(1, 3), harm(1, 0), breaking(1), drawing(-1), {}, harm(0, 10000)} {
		wantAllRefused(t, sc, s, h, want)
	}
}

// wantTaken: no call refuses a scene whose first thing is a giver, held by the player 0: it doubles what the player 1 gets.
func wantTaken(t *testing.T, sc scene) {
	t.Helper()
	if got, e := swap.List(sc.b, sc.things, sc.fs); e != api.OK || len(got) == 0 {
		t.Errorf("List = %+v, %d", got, e)
	}
	sc.wantSwaps(t, sc.swap(t, 1, 1), harm(-2, 3), true)
	sc.wantNext(t, harm(-2, 3), nil, harm(-2, 6), "1.1")
	sc.wantAll(t, harm(-2, 3), harm(-2, 6), "1.1", 0)
	sc.wantAll(t, harm(-1, 3), harm(-1, 3), "", 0)
}

// sound is a scene with three things on the table and eight off it.
func sound(t testing.TB) scene {
	t.Helper()
	return lay(t, sealed(t, soundCards()...), "giver 0 4 0", "stone 1 7 0", "plain 1 2 0").off(t, "zap").off(t, "stone")
}

func soundCards() []string {
	return []string{
		"plain air unit 1 2/2",
		"giver earth unit 1 2/2 | always grant all fast | rather twice foe",
		"zap fire spell 1 | played harm it 3",
		"stone gold relic 1 | rather less all 1",
	}
}

// nobodys has what is no book.
func nobodys() map[string]*book.Book {
	return map[string]*book.Book{"nil": nil, "a literal": {}, "new": new(book.Book)}
}

// grown is a scene with things in a deck behind it, and their features, till there are so many.
func (sc scene) grown(count int) scene {
	sc = sc.clone()
	for len(sc.things) < count {
		sc.things = append(sc.things, api.Thing{Card: 1, Place: api.Deck})
	}
	for len(sc.fs) < count {
		sc.fs = append(sc.fs, api.Feature{})
	}
	return sc
}

// filled is a scene with units of the player 1 on the table behind it, till so many things lie there.
func (sc scene) filled(count int) scene {
	sc = sc.clone()
	for i := 3; i < count; i++ {
		sc.things = append(sc.things, api.Thing{Card: 1, Owner: 1, Place: api.Table, Stamp: 100 + i})
		sc.fs = append(sc.fs, api.Feature{Holder: 1})
	}
	return sc
}

// wrongScenes has each way in which a book, things and features do not go together, with at most 2,048 things.
func wrongScenes(t testing.TB) map[string]scene {
	sc := sound(t)
	scenes := map[string]scene{
		"open":                        {open(t, soundCards()...), sc.things, sc.fs},
		"open, no things":             {b: open(t, soundCards()...)},
		"open, no cards, no things":   {b: book.New()},
		"sealed, no cards":            {sealed(t), sc.things, sc.fs},
		"no features":                 {b: sc.b, things: sc.things},
		"no things":                   {b: sc.b, fs: sc.fs},
		"a feature less":              {sc.b, sc.things, sc.fs[:len(sc.fs)-1]},
		"a feature more":              {sc.b, sc.things[:len(sc.things)-1], sc.fs},
		"2,048 things, one more":      {sc.b, sc.grown(2048).things, sc.grown(2049).fs},
		"seventeen on the table":      sc.filled(17),
		"2,037 on the table":          sc.filled(2037),
		"2,048 things, all elsewhere": {sc.b, make([]api.Thing, 2048), make([]api.Feature, 2048)},
	}
	for i, x := range sc.things {
		for name, wrong := range wrongThings(sc, i) {
			scenes[fmt.Sprint("the thing ", i+1, ": ", name)] = wrong
		}
		if x.Place != api.Table {
			continue
		}
		for name, wrong := range wrongOnTable(sc, i) {
			scenes[fmt.Sprint("the thing ", i+1, ": ", name)] = wrong
		}
	}
	return scenes
}

// wrongThings has what is wrong of a thing wherever it is.
func wrongThings(sc scene, i int) map[string]scene {
	scenes := map[string]scene{}
	for _, n := range []int{0, -1, math.MinInt, 5, 65, 1<<32 + 1, math.MaxInt} {
		other := sc.clone()
		other.things[i].Card = n
		scenes[fmt.Sprint("the card ", n)] = other
	}
	for _, n := range []int{-1, 2, math.MinInt, math.MaxInt, 1 << 32, 1<<32 + 1} {
		other := sc.clone()
		other.things[i].Owner = n
		scenes[fmt.Sprint("the owner ", n)] = other
	}
	for _, n := range []api.Place{0, 6, 7, 255} {
		other := sc.clone()
		other.things[i].Place = n
		scenes[fmt.Sprint("the place ", n)] = other
	}
	return scenes
}

// wrongOnTable has what is wrong of a thing on the table alone.
func wrongOnTable(sc scene, i int) map[string]scene {
	scenes := map[string]scene{}
	spell := sc.clone()
	spell.things[i].Card = 3
	scenes["a spell"] = spell
	for _, n := range []int{0, -1, math.MinInt, sc.things[(i+1)%3].Stamp, sc.things[(i+2)%3].Stamp} {
		other := sc.clone()
		other.things[i].Stamp = n
		scenes[fmt.Sprint("the stamp ", n)] = other
	}
	for _, n := range []int{-1, 2, math.MinInt, math.MaxInt, 1 << 32, 1<<32 + 1} {
		other := sc.clone()
		other.fs[i].Holder = n
		scenes[fmt.Sprint("the holder ", n)] = other
	}
	for _, bits := range []api.Traits{1 << 8, 1<<8 | 1, 1 << 15, 65535} {
		other := sc.clone()
		other.fs[i].Traits = bits
		scenes[fmt.Sprint("the traits ", bits)] = other
	}
	return scenes
}

func TestSoundScenesAreTaken(t *testing.T) {
	for name, sc := range map[string]scene{"sound": sound(t), "2,048 things": sound(t).grown(2048), "sixteen on the table": sound(t).filled(16)} {
		t.Run(name, func(t *testing.T) { wantTaken(t, sc) })
	}
	far := sound(t)
	far.things[0].Stamp, far.things[1].Stamp, far.things[2].Stamp = math.MaxInt, math.MaxInt-1, 1
	wantTaken(t, far)
	owned := sound(t)
	for i := range owned.things {
		owned.things[i].Owner = 1 - owned.things[i].Owner
	}
	wantTaken(t, owned)
}

// Of a thing on the table nothing else is asked than what chapter 19 names.
func TestOtherFieldsAreNotAsked(t *testing.T) {
	for _, n := range []int{-1, 100, math.MinInt, math.MaxInt} {
		sc := sound(t)
		for i := range 3 {
			x, f := &sc.things[i], &sc.fs[i]
			x.Hurt, x.Done, x.Marks, x.Fresh = n, n, [4]int{n, n, n, n}, true
			f.Suit, f.Power, f.Health = 99, n, n
		}
		wantTaken(t, sc)
	}
}

// Things off the table are asked neither for a stamp, nor for a kind, nor for features, and there may be many.
func TestOffTheTableLessIsAsked(t *testing.T) {
	for _, n := range []int{0, -1, 4, 7, 100, math.MinInt, math.MaxInt} {
		sc := sound(t).grown(200)
		for i := 3; i < len(sc.things); i++ {
			sc.things[i] = api.Thing{Card: 1 + i%4, Owner: i % 2, Place: offPlaces()[i/2%4], Stamp: n, Marks: [4]int{n, -n, n, n}, Hurt: n, Done: n, Fresh: true}
			sc.fs[i] = api.Feature{Holder: n, Suit: 99, Traits: 65535, Power: n, Health: n}
		}
		wantTaken(t, sc)
	}
}

func TestNoThings(t *testing.T) {
	for _, sc := range []scene{{b: sealed(t)}, {sealed(t, soundCards()...), []api.Thing{}, []api.Feature{}}} {
		sc.wantList(t, "")
		sc.wantAll(t, harm(-1, 3), harm(-1, 3), "", 0)
		sc.wantAll(t, drawing(-2), drawing(-2), "", 0)
		sc.wantNext(t, harm(-1, 3), nil, none, "")
		wantMayNotBe(t, sc, harm(1, 3))
		wantMayNotBe(t, sc, breaking(1))
	}
}

func TestWhatDoesNotGoTogether(t *testing.T) {
	for name, sc := range wrongScenes(t) {
		t.Run(name, func(t *testing.T) { wantRefused(t, sc, api.ErrArg) })
	}
}

func TestMoreThan2048Things(t *testing.T) {
	scenes := wrongScenes(t)
	scenes["sound"] = sound(t)
	for name, sc := range scenes {
		t.Run(name, func(t *testing.T) {
			for _, count := range []int{2049, 5000} {
				wantRefused(t, sc.grown(count), api.ErrLong)
			}
		})
	}
	wantRefused(t, sound(t).filled(3000), api.ErrLong)
	wantRefused(t, scene{sound(t).b, make([]api.Thing, 2049), nil}, api.ErrLong)
	// More features than that are no more things.
	wantRefused(t, scene{sound(t).b, sound(t).things, sound(t).grown(2049).fs}, api.ErrArg)
}

func TestNoBook(t *testing.T) {
	scenes := wrongScenes(t)
	scenes["sound"], scenes["long"], scenes["nothing"] = sound(t), sound(t).grown(2049), scene{}
	for kind, b := range nobodys() {
		for name, sc := range scenes {
			t.Run(kind+", "+name, func(t *testing.T) {
				sc.b = b
				wantRefused(t, sc, api.ErrNil)
			})
		}
	}
}

// busy is a scene in which each event is swapped that may be: the swap that would do it is told with each.
func busy(t testing.TB) (scene, map[api.Verb]string) {
	t.Helper()
	b := sealed(t,
		"wall earth relic 1 | rather less all 1 | rather twice you | rather twice foe | rather less self 2",
		"rock earth unit 1 1/9",
		"well water relic 1 | rather instead you 1 | rather instead foe 2 | rather instead all 1 | rather instead self 1",
		"zap fire spell 1",
	)
	sc := lay(t, b, "wall 0 1 9", "rock 1 2 9", "well 1 3 9").off(t, "rock").off(t, "zap")
	return sc, map[api.Verb]string{api.Harm: "1.0 1.1 1.2 1.3", api.Break: "3.2 3.3", api.Draw: "3.0 3.1"}
}

// wantMayNotBe: All of an event refuses it, and no swap of the scene is told to swap it.
func wantMayNotBe(t *testing.T, sc scene, h api.Happening) {
	t.Helper()
	list, e := swap.List(sc.b, sc.things, sc.fs)
	if e != api.OK {
		t.Errorf("List = %d", e)
	}
	for _, s := range append(list, api.Standing{}) {
		wantAllRefused(t, sc, s, h, api.ErrArg)
	}
}

func TestVerbsThatMayNotBe(t *testing.T) {
	sc, _ := busy(t)
	for v := range 256 {
		switch verb := api.Verb(v); verb {
		case api.Harm, api.Break, api.Draw:
		default:
			for _, on := range []int{-2, -1, 1, 2, 3, 0, 4, -3} {
				wantMayNotBe(t, sc, api.Happening{Verb: verb, On: on, Count: 1})
			}
		}
	}
}

// wantMayBe: All takes an event.
func wantMayBe(t *testing.T, sc scene, h api.Happening) {
	t.Helper()
	if _, e := swap.All(sc.b, sc.things, sc.fs, h); e != api.OK {
		t.Errorf("All(%+v) = %d", h, e)
	}
}

// far are numbers that are neither a player's nor that of one of busy's eleven things.
func far() []int {
	return []int{0, -3, -4, 12, 13, 2048, 2049, 1<<32 + 1, 1<<32 - 1, 255, 256, math.MinInt, math.MinInt + 1, math.MaxInt}
}

func TestOnNobody(t *testing.T) {
	sc, _ := busy(t)
	for on := -2; on <= len(sc.things); on++ {
		isPlayer, onTable := on < 0, on >= 1 && on <= 3
		for _, r := range []struct {
			h  api.Happening
			ok bool
		}{{harm(on, 3), isPlayer || onTable}, {breaking(on), onTable}, {drawing(on), isPlayer}} {
			if r.ok {
				wantMayBe(t, sc, r.h)
			} else {
				wantMayNotBe(t, sc, r.h)
			}
		}
	}
	for _, on := range far() {
		for _, h := range []api.Happening{harm(on, 3), harm(on, 0), breaking(on), drawing(on)} {
			wantMayNotBe(t, sc, h)
		}
	}
	for n := 1; n <= 3; n++ {
		for _, place := range offPlaces() {
			left := sc.clone()
			left.things[n-1].Place = place
			wantMayNotBe(t, left, harm(n, 3))
			wantMayNotBe(t, left, breaking(n))
		}
	}
}

func TestCountOfAHarm(t *testing.T) {
	sc, swaps := busy(t)
	for _, on := range []int{-2, -1, 1, 2, 3} {
		for _, count := range []int{-9999, -9998, -1, 0, 1, 2, 9998, 9999} {
			wantMayBe(t, sc, harm(on, count))
		}
		for _, count := range []int{-10000, 10000, -10001, 10001, 1 << 32, 1<<32 + 1, math.MinInt, math.MaxInt} {
			wantMayNotBe(t, sc, harm(on, count))
		}
	}
	// The bounds themselves are swapped.
	sc.wantSwaps(t, sc.swaps(t, swaps[api.Harm])[0], harm(2, 9999), true)
	sc.wantSwaps(t, sc.swaps(t, swaps[api.Harm])[0], harm(2, -9999), true)
}

// Of a Break or a Draw Count counts for nothing, nor do Holder, Venom and Drain of any event.
func TestWhatCountsForNothing(t *testing.T) {
	sc, swaps := busy(t)
	for _, n := range []int{1, -1, 9999, 10000, -10000, math.MinInt, math.MaxInt} {
		for _, h := range []api.Happening{harm(2, 3), harm(1, 3), harm(-1, 3), breaking(1), breaking(2), breaking(3), drawing(-1), drawing(-2)} {
			other := h
			other.Holder, other.Venom, other.Drain = n, true, true
			if h.Verb != api.Harm {
				other.Count = n
			}
			wantMayBe(t, sc, other)
			for _, s := range sc.swaps(t, swaps[h.Verb]) {
				sc.wantSwaps(t, s, other, swap.Swaps(sc.b, sc.things, sc.fs, s, h))
			}
		}
		sc.wantAll(t, api.Happening{Verb: api.Break, On: 3, Count: n, Holder: n}, none, "3.3", 1)
		sc.wantSwapped(t, api.Happening{Verb: api.Draw, On: -1, Count: n}, api.Swapped{Used: sc.swaps(t, "3.1"), Life: 2})
	}
}

// Swaps tells false of what is none of List's: another thing, another place, another part, the swap of a Mute thing.
func TestSwapsOfWhatIsNoneOfTheSwaps(t *testing.T) {
	sc, _ := busy(t)
	s := sc.swap(t, 1, 0)
	sc.wantSwaps(t, s, harm(2, 3), true)
	for _, by := range []func(*api.Standing){
		func(s *api.Standing) { s.Thing = 0 },
		func(s *api.Standing) { s.Thing = -1 },
		func(s *api.Standing) { s.Thing = 2 },
		func(s *api.Standing) { s.Thing = 4 },
		func(s *api.Standing) { s.Thing = 12 },
		func(s *api.Standing) { s.Thing = math.MaxInt },
		func(s *api.Standing) { s.Thing = math.MinInt },
		func(s *api.Standing) { s.Place = 1 },
		func(s *api.Standing) { s.Place = -1 },
		func(s *api.Standing) { s.Place = 4 },
		func(s *api.Standing) { s.Place = math.MaxInt },
		func(s *api.Standing) { s.Place = math.MinInt },
		func(s *api.Standing) { s.What = api.Part{} },
		func(s *api.Standing) { s.What.When = api.Always },
		func(s *api.Standing) { s.What.Verb = api.Twice },
		func(s *api.Standing) { s.What.Whom = api.Yours },
		func(s *api.Standing) { s.What.Count = 2 },
		func(s *api.Standing) { s.What.Suit = api.Earth },
		func(s *api.Standing) { s.What.Trait = api.Fast },
		func(s *api.Standing) { s.What.Mark = api.Shield },
		func(s *api.Standing) { s.What.Name = "rock" },
		func(s *api.Standing) { *s = api.Standing{} },
	} {
		other := s
		by(&other)
		sc.wantSwaps(t, other, harm(2, 3), false)
	}
	mute := sc.clone()
	mute.fs[0].Traits = set(api.Mute)
	mute.wantSwaps(t, s, harm(2, 3), false)
	for _, place := range offPlaces() {
		left := sc.clone()
		left.things[0].Place = place
		left.wantSwaps(t, s, harm(2, 3), false)
	}
}
