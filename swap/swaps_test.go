package swap_test

import (
	"fmt"
	"math"
	"slices"
	"testing"

	"gambit/api"
	"gambit/swap"
)

// P21.3

// aim is a Whom that a swap may have, with the suit or the trait that it uses, and whom such a swap is about in the crowd: one of the relic 1, which is held by 0, and one of the unit 2, which is held by 1.
type aim struct {
	whom, end string
	numbers   [2][]int
}

func aims() []aim {
	return []aim{
		{"you", "", [2][]int{{-1}, {-2}}},
		{"foe", "", [2][]int{{-2}, {-1}}},
		{"self", "", [2][]int{{1}, {2}}},
		{"yours", "", [2][]int{{4, 6}, {2, 5}}},
		{"rest", "", [2][]int{{4, 6}, {5}}},
		{"theirs", "", [2][]int{{2, 5}, {4, 6}}},
		{"all", "", [2][]int{{2, 4, 5, 6}, {2, 4, 5, 6}}},
		{"dyed", " gold", [2][]int{{2, 4}, {2, 4}}},
		{"dyed", " fire", [2][]int{}},
		{"with", " swift", [2][]int{{5, 6}, {5, 6}}},
		{"with", " guard", [2][]int{}},
	}
}

// crowd is a scene with a relic, 1, and a unit, 2, that have the same swaps, beside relics and units of both players; who holds what, the suits and the traits are others than the printed ones.
func crowd(t testing.TB, parts string) scene {
	t.Helper()
	b := sealed(t,
		"lamp air relic 1 | "+parts,
		"lion air unit 1 2/2 | "+parts,
		"vase earth relic 1",
		"mole earth unit 1 2/2 +fast",
		"zap fire spell 1",
	)
	sc := lay(t, b, "lamp 1 7 9", "lion 0 6 9", "vase 0 5 9", "mole 1 4 9", "mole 0 3 9", "mole 0 2 9", "vase 1 1 9").off(t, "mole").off(t, "zap")
	for i, f := range []api.Feature{
		{Holder: 0, Suit: api.Gold, Traits: set(api.Swift)},
		{Holder: 1, Suit: api.Gold},
		{Holder: 0, Suit: api.Gold, Traits: set(api.Swift)},
		{Holder: 0, Suit: api.Gold, Traits: set(api.Fast)},
		{Holder: 1, Suit: api.Water, Traits: set(api.Swift, api.Lone)},
		{Holder: 0, Suit: api.Void, Traits: set(api.Swift)},
		{Holder: 1, Suit: api.Gold, Traits: set(api.Swift)},
	} {
		sc.fs[i] = f
	}
	return sc
}

// events are all that may be in the crowd.
func events() []api.Happening {
	var list []api.Happening
	for _, on := range []int{-2, -1, 1, 2, 3, 4, 5, 6, 7} {
		for _, count := range []int{5, 1, 0, -9999, 9999} {
			list = append(list, harm(on, count))
		}
		if on < 0 {
			list = append(list, drawing(on))
		} else {
			list = append(list, breaking(on))
		}
	}
	return list
}

// Each verb by each Whom, of a relic and of a unit, held by unlike players: the events that it swaps, and those that it does not.
func TestSwapsOfEachVerbAndWhom(t *testing.T) {
	for verb, count := range map[string]string{"less": " 2", "twice": "", "turned": "", "instead": " 2"} {
		for _, a := range aims() {
			wants := api.Harm
			if verb == "instead" {
				wants = api.Break
				if a.whom == "you" || a.whom == "foe" {
					wants = api.Draw
				}
			}
			sc := crowd(t, "rather "+verb+" "+a.whom+count+a.end)
			for i, numbers := range a.numbers {
				for _, h := range events() {
					sc.wantSwaps(t, sc.swap(t, 1+i, 0), h, h.Verb == wants && slices.Contains(numbers, h.On))
				}
			}
		}
	}
}

// A relic is harmed, and broken, by its number, but no swap but its own is about it.
func TestSwapsOfARelicsOwnEvents(t *testing.T) {
	sc := crowd(t, "rather less self 2 | rather instead self 1 | rather less all 1 | rather less yours 1")
	for place, h := range []api.Happening{harm(1, 3), breaking(1), harm(1, 3), harm(1, 3)} {
		sc.wantSwaps(t, sc.swap(t, 1, place), h, place < 2)
		h.On = 3
		sc.wantSwaps(t, sc.swap(t, 1, place), h, false)
	}
}

// Instead of a break wants as many Shield marks on the thing that would break as its Count, or more; other marks are none.
func TestInsteadWantsShields(t *testing.T) {
	for _, count := range []int{1, 2, 50, 99} {
		sc := crowd(t, fmt.Sprint("rather instead self ", count, " | rather instead all ", count, " | rather instead you ", count))
		for _, marks := range []int{math.MinInt, -1, 0, 1, 2, 3, 49, 50, 51, 98, 99, 100, math.MaxInt} {
			for _, n := range []int{2, 5} {
				other := sc.clone()
				for i := range other.things {
					other.things[i].Marks = [4]int{99, 99, 0, 99}
				}
				other.things[n-1].Marks = [4]int{0, 0, marks, 0}
				other.wantSwaps(t, sc.swap(t, 2, 0), breaking(n), n == 2 && marks >= count)
				other.wantSwaps(t, sc.swap(t, 2, 1), breaking(n), marks >= count)
				// Of a draw no marks count.
				other.wantSwaps(t, sc.swap(t, 2, 2), drawing(-2), true)
			}
		}
	}
}

// Marks count for nothing where a harm is swapped.
func TestSwapsOfAHarmPassesShieldsOver(t *testing.T) {
	for _, marks := range []int{-1, 0, 1, 99} {
		sc := crowd(t, "rather less yours 1")
		sc.things[1].Marks[api.Shield-1] = marks
		sc.wantSwaps(t, sc.swap(t, 2, 0), harm(2, 3), true)
		sc.wantNext(t, harm(2, 3), nil, harm(2, 2), "2.0")
	}
}

// ladder is a scene with one player's swaps, all about all units, in the order 3.0 3.1 1.0 2.0.
func ladder(t testing.TB) scene {
	t.Helper()
	b := sealed(t,
		"one air relic 1 | rather less all 1",
		"two earth relic 1 | rather twice all",
		"mute void unit 1 1/9 | rather twice all | rather less all 3",
	)
	return lay(t, b, "one 0 5 0", "two 1 7 0", "mute 0 1 0")
}

func TestNextIsTheFirst(t *testing.T) {
	sc := ladder(t)
	sc.wantList(t, "3.0 3.1 1.0 2.0")
	h := harm(3, 10)
	sc.wantNext(t, h, nil, harm(3, 20), "3.0")
	sc.wantNext(t, h, []api.Standing{}, harm(3, 20), "3.0")
	for _, r := range []struct {
		used  string
		after api.Happening
		want  string
	}{
		{"3.0", harm(3, 7), "3.1"},
		{"3.1", harm(3, 20), "3.0"},
		{"3.0 3.1", harm(3, 9), "1.0"},
		{"3.1 3.0", harm(3, 9), "1.0"},
		{"3.0 1.0", harm(3, 7), "3.1"},
		{"2.0 3.1 3.0", harm(3, 9), "1.0"},
		{"1.0 3.1 3.0", harm(3, 20), "2.0"},
		{"3.0 3.0 3.0", harm(3, 7), "3.1"},
		{"1.0 2.0 3.0 3.1", none, ""},
	} {
		sc.wantNext(t, h, sc.swaps(t, r.used), r.after, r.want)
	}
	sc.fs[2].Traits = set(api.Mute)
	sc.wantNext(t, h, nil, harm(3, 9), "1.0")
}

// A swap is among the used ones by its Thing and its Place alone.
func TestNextOfUsedByThingAndPlace(t *testing.T) {
	sc := ladder(t)
	h := harm(3, 10)
	for _, what := range []api.Part{{}, sc.swap(t, 3, 1).What, {When: 99, Verb: 99, Whom: 99, Count: -1, Name: "x"}} {
		sc.wantNext(t, h, []api.Standing{{Thing: 3, Place: 0, What: what}}, harm(3, 7), "3.1")
		sc.wantNext(t, h, []api.Standing{{Thing: 3, Place: 1, What: what}, {Thing: 3, Place: 0, What: what}}, harm(3, 9), "1.0")
	}
	first := sc.swap(t, 3, 0).What
	for _, pair := range [][2]int{{0, 0}, {3, 2}, {3, -1}, {1, 3}, {2, 1}, {-3, 0}, {math.MaxInt, 0}, {3, math.MinInt}, {0, 3}} {
		sc.wantNext(t, h, []api.Standing{{Thing: pair[0], Place: pair[1], What: first}}, harm(3, 20), "3.0")
	}
	long := slices.Repeat([]api.Standing{{Thing: 3, Place: 9}}, 5000)
	sc.wantNext(t, h, long, harm(3, 20), "3.0")
	sc.wantNext(t, h, append(long, sc.swap(t, 3, 0)), harm(3, 7), "3.1")
}

// Next passes those over that do not swap the event as it is, and tells none where none is left.
func TestNextPassesOver(t *testing.T) {
	sc, _ := busy(t)
	sc.wantNext(t, harm(-1, 3), nil, harm(-1, 6), "1.1")
	sc.wantNext(t, harm(-2, 3), nil, harm(-2, 6), "1.2")
	sc.wantNext(t, harm(-2, 3), sc.swaps(t, "1.2"), none, "")
	sc.wantNext(t, harm(1, 3), nil, harm(1, 1), "1.3")
	sc.wantNext(t, harm(3, 3), nil, none, "")
	sc.wantNext(t, drawing(-1), nil, none, "3.1")
	sc.wantNext(t, drawing(-2), nil, none, "3.0")
	sc.wantNext(t, breaking(1), nil, none, "")
	sc.wantNext(t, breaking(2), nil, none, "3.2")
	sc.wantNext(t, breaking(3), nil, none, "3.3")
	sc.wantNext(t, breaking(3), sc.swaps(t, "3.3"), none, "")
}

// Swaps and Next know no first look: what All tells of a harm below 1, or of a Shield, they leave alone.
func TestSwapsAndNextOfAHarmBelowOne(t *testing.T) {
	sc := ladder(t)
	for _, count := range []int{0, -1, -9999} {
		for _, s := range sc.swaps(t, "3.0 3.1 1.0 2.0") {
			sc.wantSwaps(t, s, harm(3, count), true)
		}
		sc.wantNext(t, harm(3, count), nil, none, "3.0")
		sc.wantNext(t, harm(3, count), sc.swaps(t, "3.0"), none, "3.1")
	}
	turned := crowd(t, "rather turned self")
	turned.wantSwaps(t, turned.swap(t, 2, 0), harm(2, 0), true)
	turned.wantNext(t, harm(2, 0), nil, none, "2.0")
	turned.wantNext(t, harm(2, -9999), nil, none, "2.0")
	turned.wantNext(t, harm(2, 1), nil, harm(-1, 1), "2.0")
}

// Swaps of what was used is not asked: it is true all the same.
func TestSwapsIsAskedOfEachByItself(t *testing.T) {
	sc := ladder(t)
	for _, s := range sc.swaps(t, "3.0 3.1 1.0 2.0") {
		sc.wantSwaps(t, s, harm(3, 10), true)
		sc.wantSwaps(t, s, harm(1, 10), false)
		sc.wantSwaps(t, s, harm(-1, 10), false)
	}
}

// P21.4

// made is what Next of a scene with one swap makes of an event.
func made(t *testing.T, part string, holder int, h api.Happening) api.Happening {
	t.Helper()
	sc := crowd(t, part)
	sc.fs[0].Traits, sc.fs[1].Holder = set(api.Mute), holder
	after, s, ok := swap.Next(sc.b, sc.things, sc.fs, h, nil)
	if !ok || s != sc.swap(t, 2, 0) {
		t.Errorf("Next(%+v) by %q = %+v, %v", h, part, s, ok)
	}
	return after
}

func TestWhatEachSwapMakes(t *testing.T) {
	for _, r := range []struct {
		part  string
		count int
		want  api.Happening
	}{
		{"rather less self 1", 3, harm(2, 2)},
		{"rather less self 1", 2, harm(2, 1)},
		{"rather less self 1", 1, none},
		{"rather less self 5", 9, harm(2, 4)},
		{"rather less self 5", 6, harm(2, 1)},
		{"rather less self 5", 5, none},
		{"rather less self 5", 4, none},
		{"rather less self 99", 100, harm(2, 1)},
		{"rather less self 99", 99, none},
		{"rather less self 99", 9999, harm(2, 9900)},
		{"rather less self 99", -9999, none},
		{"rather twice self", 1, harm(2, 2)},
		{"rather twice self", 4999, harm(2, 9998)},
		{"rather twice self", 5000, harm(2, 9999)},
		{"rather twice self", 5001, harm(2, 9999)},
		{"rather twice self", 9999, harm(2, 9999)},
		{"rather twice self", 0, none},
		{"rather twice self", -9999, none},
		{"rather turned self", 1, harm(-2, 1)},
		{"rather turned self", 9999, harm(-2, 9999)},
		{"rather turned self", 0, none},
		{"rather turned self", -1, none},
	} {
		if got := made(t, r.part, 0, harm(2, r.count)); got != r.want {
			t.Errorf("%q of a harm of %d makes %+v, want %+v", r.part, r.count, got, r.want)
		}
	}
}

// A turned harm is of the foe of who holds the swap's thing by the features, whomever it was of.
func TestTurnedToTheFoe(t *testing.T) {
	for holder := range 2 {
		foe := -2 + holder
		for _, r := range []struct {
			part string
			on   int
		}{
			{"rather turned you", -1 - holder},
			{"rather turned foe", foe},
			{"rather turned self", 2},
			{"rather turned all", 6},
			{"rather turned all", 5},
		} {
			if got := made(t, r.part, holder, harm(r.on, 7)); got != harm(foe, 7) {
				t.Errorf("%q, held by %d, of a harm of %d makes %+v", r.part, holder, r.on, got)
			}
		}
	}
}

func TestInsteadMakesNone(t *testing.T) {
	for part, h := range map[string]api.Happening{
		"rather instead self 1":   breaking(2),
		"rather instead self 9":   breaking(2),
		"rather instead theirs 1": breaking(5),
		"rather instead you 1":    drawing(-1),
		"rather instead you 99":   drawing(-1),
		"rather instead foe 7":    drawing(-2),
	} {
		h.Count, h.Holder, h.Venom, h.Drain = 7, 1, true, true
		if got := made(t, part, 0, h); got != none {
			t.Errorf("%q of %+v makes %+v", part, h, got)
		}
	}
}

// Holder, Venom and Drain are handed through, whatever they are; of what is none nothing is left.
func TestHandedThrough(t *testing.T) {
	for _, holder := range []int{0, 1, -1, 2, math.MinInt, math.MaxInt} {
		for _, venom := range []bool{false, true} {
			for _, drain := range []bool{false, true} {
				h := api.Happening{Verb: api.Harm, On: 2, Count: 4, Holder: holder, Venom: venom, Drain: drain}
				for part, by := range map[string]func(*api.Happening){
					"rather less self 1": func(h *api.Happening) { h.Count = 3 },
					"rather twice self":  func(h *api.Happening) { h.Count = 8 },
					"rather turned self": func(h *api.Happening) { h.On = -2 },
					"rather less self 4": func(h *api.Happening) { *h = none },
				} {
					want := h
					by(&want)
					if got := made(t, part, 0, h); got != want {
						t.Errorf("%q makes %+v, want %+v", part, got, want)
					}
				}
			}
		}
	}
}
