package swap_test

import (
	"math"
	"testing"

	"gambit/api"
)

// P21.5

// shielded is a scene with swaps about units, players and things by themselves, where Shields lie on units and relics, but on one unit.
func shielded(t testing.TB) scene {
	t.Helper()
	b := sealed(t,
		"wall earth relic 1 | rather less self 1 | rather less all 1 | rather twice you | rather twice foe",
		"rock earth unit 1 1/9 | rather twice self",
		"bare earth unit 1 1/9",
		"well water relic 1 | rather instead all 2",
	)
	return lay(t, b, "wall 0 1 5", "rock 1 2 5", "bare 1 3 0", "well 1 4 5")
}

func TestHarmBelowOneIsNone(t *testing.T) {
	sc := shielded(t)
	for _, count := range []int{0, -1, -2, -9998, -9999} {
		for _, on := range []int{-2, -1, 1, 2, 3, 4} {
			h := harm(on, count)
			h.Holder, h.Venom, h.Drain = 1, true, true
			sc.wantAll(t, h, none, "", 0)
		}
	}
}

// A Shield takes a harm of a unit ahead of all swaps.
func TestShieldAheadOfAll(t *testing.T) {
	sc := shielded(t)
	for _, count := range []int{1, 2, 3, 9999} {
		h := harm(2, count)
		sc.wantAll(t, h, none, "", 1)
		h.Holder, h.Venom, h.Drain = 1, true, true
		sc.wantAll(t, h, none, "", 1)
	}
	for _, marks := range []int{1, 2, 99, 100, math.MaxInt} {
		sc.things[1].Marks = [4]int{0, 0, marks, 0}
		sc.wantAll(t, harm(2, 3), none, "", 1)
	}
	for _, marks := range [][4]int{{}, {9, 9, 0, 9}, {1, 1, -1, 1}, {0, 0, math.MinInt, 0}} {
		sc.things[1].Marks = marks
		sc.wantAll(t, harm(2, 3), harm(2, 4), "1.1 2.0", 0)
	}
}

// Shields of what is no unit take no harm, nor do those of others than the one that is harmed.
func TestShieldOfNoUnit(t *testing.T) {
	sc := shielded(t)
	sc.wantAll(t, harm(1, 3), harm(1, 2), "1.0", 0)
	sc.wantAll(t, harm(4, 3), harm(4, 3), "", 0)
	sc.wantAll(t, harm(3, 3), harm(3, 2), "1.1", 0)
	sc.wantAll(t, harm(-1, 3), harm(-1, 6), "1.2", 0)
	sc.wantAll(t, harm(-2, 3), harm(-2, 6), "1.3", 0)
}

// The Shield of a Mute unit counts, and so does one where no swap stands.
func TestShieldWithoutSwaps(t *testing.T) {
	sc := shielded(t)
	for i := range sc.fs {
		sc.fs[i].Traits = set(api.Mute)
	}
	sc.wantList(t, "")
	sc.wantAll(t, harm(2, 3), none, "", 1)
	sc.wantAll(t, harm(3, 3), harm(3, 3), "", 0)
}

// A Shield takes no break by itself, and a break takes as many as the Instead's Count, not one.
func TestBreakOfAShielded(t *testing.T) {
	sc := shielded(t)
	sc.wantAll(t, breaking(2), none, "4.0", 2)
	sc.wantAll(t, breaking(1), breaking(1), "", 0)
	sc.things[1].Marks[api.Shield-1] = 2
	sc.wantAll(t, breaking(2), none, "4.0", 2)
	sc.things[1].Marks[api.Shield-1] = 1
	sc.wantAll(t, breaking(2), breaking(2), "", 0)
	sc.wantAll(t, breaking(3), breaking(3), "", 0)
}

// Of two Instead the first is used that can; none behind it.
func TestOneInsteadIsUsed(t *testing.T) {
	b := sealed(t,
		"big earth unit 1 1/9 | rather instead self 5 | rather instead all 2 | rather instead yours 1",
		"well water relic 1 | rather instead you 3 | rather instead you 4 | rather instead foe 99",
	)
	sc := lay(t, b, "well 0 9 9", "big 0 5 0", "well 1 3 0")
	for marks, want := range map[int]string{0: "", 1: "2.2", 2: "2.1", 4: "2.1", 5: "2.0", 6: "2.0", 99: "2.0"} {
		sc.things[1].Marks[api.Shield-1] = marks
		gone := map[string]int{"2.0": 5, "2.1": 2, "2.2": 1}[want]
		after := none
		if want == "" {
			after = breaking(2)
		}
		sc.wantAll(t, breaking(2), after, want, gone)
	}
	sc.wantSwapped(t, drawing(-1), api.Swapped{Used: sc.swaps(t, "3.2"), Life: 99})
	sc.wantSwapped(t, drawing(-2), api.Swapped{Used: sc.swaps(t, "3.0"), Life: 3})
	sc.things[0].Stamp = 1
	sc.wantSwapped(t, drawing(-1), api.Swapped{Used: sc.swaps(t, "1.0"), Life: 3})
	sc.wantSwapped(t, drawing(-2), api.Swapped{Used: sc.swaps(t, "1.2"), Life: 99})
}

// Again and again from the first on: each swap of a harm, in the order of stamps and places.
func TestSwapsOneBehindTheOther(t *testing.T) {
	sc := ladder(t)
	sc.wantAll(t, harm(3, 10), harm(3, 32), "3.0 3.1 1.0 2.0", 0) // 20, 17, 16, 32
	sc.things[2].Stamp = 6
	sc.wantAll(t, harm(3, 10), harm(3, 30), "1.0 3.0 3.1 2.0", 0) // 9, 18, 15, 30
	sc.things[2].Stamp, sc.things[1].Stamp, sc.things[0].Stamp = 3, 2, 4
	sc.wantAll(t, harm(3, 10), harm(3, 36), "2.0 3.0 3.1 1.0", 0) // 20, 40, 37, 36
	sc.wantAll(t, harm(3, 9999), harm(3, 9995), "2.0 3.0 3.1 1.0", 0)
	sc.wantAll(t, harm(3, 2500), harm(3, 9995), "2.0 3.0 3.1 1.0", 0) // 5000, 9999, 9996, 9995
}

// Once a harm is below 1 it is none, and no swap behind that is used.
func TestNoneEndsIt(t *testing.T) {
	b := sealed(t, "wall earth relic 1 | rather less all 2 | rather twice all | rather less all 6 | rather twice all", "rock earth unit 1 1/9")
	sc := lay(t, b, "wall 0 1 0", "rock 0 2 0")
	for count, want := range map[int]string{1: "1.0", 2: "1.0", 3: "1.0 1.1 1.2", 5: "1.0 1.1 1.2"} {
		sc.wantAll(t, harm(2, count), none, want, 0)
	}
	sc.wantAll(t, harm(2, 6), harm(2, 4), "1.0 1.1 1.2 1.3", 0)
}

// What is turned is swapped as it is then: by those that were passed over, too, and by none that is about whom it was of.
func TestTurnedBringsOthersIn(t *testing.T) {
	b := sealed(t,
		"guard air relic 1 | rather less you 1",
		"hollow void relic 1 | rather twice foe | rather turned you",
		"mirror water unit 1 1/4 | rather turned self | rather twice self",
		"choir fire relic 1 | rather twice you",
	)
	sc := lay(t, b, "guard 0 1 0", "hollow 1 2 0", "mirror 0 3 0", "choir 0 4 0", "guard 1 5 0")
	// Of the player 1: turned to 0; then, from the first on again, less, twice by hollow, twice by choir.
	sc.wantAll(t, harm(-2, 3), harm(-1, 8), "2.1 1.0 2.0 4.0", 0)
	sc.wantAll(t, harm(-2, 1), none, "2.1 1.0", 0)
	sc.wantAll(t, harm(-1, 3), harm(-1, 8), "1.0 2.0 4.0", 0)
	// Of the mirror: turned to 1, which hollow turns to 0; its own Twice is about it no more.
	sc.wantAll(t, harm(3, 3), harm(-1, 8), "3.0 2.1 1.0 2.0 4.0", 0)
	sc.fs[1].Traits = set(api.Mute)
	sc.wantAll(t, harm(3, 3), harm(-2, 2), "3.0 5.0", 0)
	sc.wantAll(t, harm(3, 1), none, "3.0 5.0", 0)
	sc.wantAll(t, harm(-2, 3), harm(-2, 2), "5.0", 0)
}

// Two that turn a harm to one another: each is used once, and it stays where it is then.
func TestTurnedToAndFro(t *testing.T) {
	b := sealed(t, "void void relic 1 | rather turned you", "glass water relic 1 | rather turned you | rather turned foe | rather twice you")
	sc := lay(t, b, "void 0 1 0", "void 1 2 0")
	sc.wantAll(t, harm(-1, 3), harm(-1, 3), "1.0 2.0", 0)
	sc.wantAll(t, harm(-2, 3), harm(-2, 3), "2.0 1.0", 0)
	sc = lay(t, b, "void 0 2 0", "glass 1 1 0")
	// Turned to 0 by glass; what is turned from 0 by glass stays with 0; void turns it to 1, where it is twice as much.
	sc.wantAll(t, harm(-2, 3), harm(-2, 6), "2.0 2.1 1.0 2.2", 0)
	// Turned to 0, of whom it is already, then to 1, where glass's first one, ahead of its Twice, turns it to 0 again.
	sc.wantAll(t, harm(-1, 3), harm(-1, 3), "2.1 1.0 2.0", 0)
}

// Who holds the swap's thing counts, not who owns it.
func TestAllByHolders(t *testing.T) {
	sc := example(t)
	sc.fs[0].Holder, sc.fs[2].Holder, sc.fs[3].Holder = 1, 0, 1
	sc.wantAll(t, harm(-1, 5), harm(-2, 10), "3.1 3.0", 0)
	sc.wantAll(t, harm(-2, 5), harm(-2, 10), "3.0", 0)
	sc.wantAll(t, harm(4, 3), harm(4, 2), "1.2", 0)
	sc.wantAll(t, harm(3, 3), harm(3, 3), "", 0)
}

// Suits and traits count by the features.
func TestAllBySuitsAndTraits(t *testing.T) {
	b := sealed(t, "fort gold relic 1 | rather less dyed 1 gold | rather twice with fast | rather instead dyed 1 gold", "rock earth unit 1 1/9 +fast", "coin gold unit 1 1/9")
	sc := lay(t, b, "fort 0 1 0", "rock 1 2 0", "coin 1 3 0")
	sc.wantAll(t, harm(2, 3), harm(2, 6), "1.1", 0)
	sc.wantAll(t, harm(3, 3), harm(3, 2), "1.0", 0)
	sc.fs[1].Suit, sc.fs[2].Suit, sc.fs[1].Traits, sc.fs[2].Traits = api.Gold, api.Air, 0, set(api.Fast, api.Guard)
	sc.wantAll(t, harm(2, 3), harm(2, 2), "1.0", 0)
	sc.wantAll(t, harm(3, 3), harm(3, 6), "1.1", 0)
	sc.things[1].Marks[2], sc.things[2].Marks[2] = 1, 1
	sc.wantAll(t, breaking(2), none, "1.2", 1)
	sc.wantAll(t, breaking(3), breaking(3), "", 0)
}
