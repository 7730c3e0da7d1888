package view_test

import (
	"fmt"
	"testing"
)

// P20.3

// Layer by layer, whatever the stamps.
func TestStepsLayerByLayer(t *testing.T) {
	sc := tower(t)
	sc.wantSteps(t, "5.0 4.0 3.0 2.0 1.0")
	sc.wantWhy(t, 5, "4.0 3.0 2.0 1.0")
	sc.wantWhy(t, 6, "5.0 4.0 3.0 2.0 1.0")
	for _, n := range []int{1, 2, 3, 4, 7} {
		sc.wantWhy(t, n, "")
	}
}

// Of one layer by stamps, then by places, where none depends on another one.
func TestStepsOfOneLayer(t *testing.T) {
	b := sealed(t,
		"ant air unit 1 1/1 | always raise all 1 | rather twice all | always base self 5 | always raise self 2",
		"bee air relic 1 | begun draw you 1 | always raise theirs 3 | always base all 9 | always raise yours -1")
	sc := lay(t, b, "bee 0 30", "ant 1 20", "ant 0 10", "bee 1 40").off(t, "ant").off(t, "bee")
	sc.wantSteps(t, "3.2 2.2 1.2 4.2 3.0 3.3 2.0 2.3 1.1 1.3 4.1 4.3")
	sc.wantWhy(t, 2, "2.2 1.2 4.2 3.0 2.0 2.3 1.1 4.3")
	sc.wantWhy(t, 3, "3.2 1.2 4.2 3.0 3.3 2.0 1.3 4.1")
	sc.wantWhy(t, 1, "")
	sc.wantBehind(t, 4, "0 air 0/0 -", "1 air 9/9 -", "0 air 9/9 -", "1 air 0/0 -", "zero", "zero", "zero", "zero", "zero", "zero", "zero", "zero")
	sc.wantOf(t, "0 air 0/0 -", "1 air 15/15 -", "0 air 15/15 -", "1 air 0/0 -", "zero", "zero", "zero", "zero", "zero", "zero", "zero", "zero")
}

// An effect that was about a thing neither by the features with which its layer began, nor by those in the end.
func TestWhyByTheFeaturesOfThatTime(t *testing.T) {
	b := sealed(t,
		"cut void relic 1 | always strip with fast",
		"give air relic 1 | always grant yours fast",
		"bear earth unit 1 2/2",
		"wisp air unit 1 1/1 +fast")
	sc := lay(t, b, "cut 0 1", "bear 0 2", "bear 1 3", "give 0 4", "wisp 1 5")
	sc.wantSteps(t, "4.0 1.0")
	sc.wantWhy(t, 2, "4.0 1.0")
	sc.wantWhy(t, 3, "")
	sc.wantWhy(t, 5, "1.0")
	sc.wantWhy(t, 1, "")
	sc.wantOf(t, "0 void 0/0 -", "0 earth 2/2 -", "1 earth 2/2 -", "0 air 0/0 -", "1 air 1/1 -")
}

// Each of two thieves seizes the other one's units: the first by stamp takes all, and the other one's effect, which is then its foe's, is about nobody.
func TestTwoThieves(t *testing.T) {
	b := sealed(t, exampleCards()...)
	sc := lay(t, b, "thief 0 8", "thief 1 5", "bear 0 1", "bear 1 2", "brush 0 3")
	sc.wantSteps(t, "2.0 1.0 5.0")
	sc.wantOf(t, "1 void 1/1 -", "1 void 1/1 -", "1 earth 2/2 -", "1 earth 2/2 -", "0 gold 0/0 -")
	sc.wantWhy(t, 1, "2.0")
	sc.wantWhy(t, 3, "2.0")
	for _, n := range []int{2, 4, 5} {
		sc.wantWhy(t, n, "")
	}
}

// In the layer 1 a seized effect is about others in the end than it was when it was applied.
func TestWhyOfASeizedEffect(t *testing.T) {
	b := sealed(t,
		"king gold unit 1 1/1 | always seize all",
		"thief void unit 1 1/1 | always seize theirs",
		"bear earth unit 1 2/2")
	sc := lay(t, b, "thief 0 1", "king 1 2", "bear 1 3", "bear 0 4")
	// The thief's is about others were the king's applied, the king's about all, whatever is.
	sc.wantSteps(t, "2.0 1.0")
	sc.wantOf(t, "1 void 1/1 -", "1 gold 1/1 -", "1 earth 2/2 -", "1 earth 2/2 -")
	for n := 1; n <= 4; n++ {
		sc.wantWhy(t, n, "2.0")
	}
}

// Why tells an effect that was about a thing also where it changed nothing of it.
func TestWhyWhereNothingIsChanged(t *testing.T) {
	b := sealed(t,
		"same earth unit 1 2/2 +fast | always seize self | always dye self earth | always grant self fast | always base self 2",
		"gone earth relic 1 | always strip self guard")
	sc := lay(t, b, "same 0 1", "gone 1 2")
	sc.wantSteps(t, "1.0 1.1 1.2 2.0 1.3")
	sc.wantWhy(t, 1, "1.0 1.1 1.2 1.3")
	sc.wantWhy(t, 2, "2.0")
	sc.wantOf(t, "0 earth 2/2 fast", "1 earth 0/0 -")
}

// A relic's effect about itself is told of it, with what it changes.
func TestWhyOfARelic(t *testing.T) {
	b := sealed(t, "idol gold relic 1 +guard | always dye self void | always strip self guard | always raise self 3 | always raise all 5")
	sc := lay(t, b, "idol 1 4")
	sc.wantSteps(t, "1.0 1.1 1.2 1.3")
	sc.wantWhy(t, 1, "1.0 1.1 1.2")
	sc.wantOf(t, "1 void 3/3 -")
}

// The most effects that there may be: four of each of sixteen things.
func TestTheMostSteps(t *testing.T) {
	b := sealed(t, "rat earth unit 1 1/1 | always raise all 1 | always raise self 2 | always raise yours 3 | always raise theirs -1")
	var table, want []string
	steps := ""
	for i := range 16 {
		table = append(table, fmt.Sprintf("rat %d %d", i%2, 100-i))
		want = append(want, fmt.Sprintf("%d earth %d/%d -", i%2, 1+16+2+8*3-8, 1+16+2+8*3-8))
	}
	for n := 16; n >= 1; n-- {
		steps += fmt.Sprintf("%d.0 %d.1 %d.2 %d.3 ", n, n, n, n)
	}
	sc := lay(t, b, table...)
	sc.wantSteps(t, steps[:len(steps)-1])
	sc.wantOf(t, want...)
}
