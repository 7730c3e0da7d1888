package gold_test

import (
	"reflect"
	"slices"
	"sync"
	"testing"

	"gambit/api"
	"gambit/card"
	"gambit/fire"
	"gambit/gold"
	"gambit/rank"
	"gambit/start"
	"gambit/trait"
	"gambit/void"
)

const (
	guardBit api.Traits = 2
	fixedBit api.Traits = 64
)

// wantCards are the chapter's cards, with rank's values written out.
func wantCards() []api.Card {
	return []api.Card{
		{Name: "treasure", Suit: 6, Kind: api.Spell, Cost: 1, Parts: []api.Part{
			{When: api.Played, Verb: api.Gain, Whom: api.You, Count: 2},
			{When: api.Played, Verb: api.Call, Whom: api.You, Count: 1, Name: "coin"},
		}},
		{Name: "coin", Suit: 6, Kind: api.Unit, Power: 1, Health: 1, Traits: fixedBit, Token: true},
		{Name: "statue", Suit: 6, Kind: api.Unit, Cost: 2, Health: 6, Traits: guardBit | fixedBit, Parts: []api.Part{
			{When: api.Played, Verb: api.Put, Whom: api.Self, Count: 1, Mark: 3},
			{When: api.Rather, Verb: api.Instead, Whom: api.Self, Count: 1},
		}},
		{Name: "idol", Suit: 6, Kind: api.Relic, Cost: 3, Parts: []api.Part{
			{When: api.Always, Verb: api.Dye, Whom: api.Yours, Suit: 6},
			{When: api.Begun, Verb: api.Put, Whom: api.Dyed, Count: 1, Suit: 6, Mark: 1},
		}},
		{Name: "tax-man", Suit: 6, Kind: api.Unit, Cost: 3, Power: 2, Health: 3, Parts: []api.Part{
			{When: api.Played, Verb: api.Drop, Whom: api.Foe, Count: 1},
			{When: api.Begun, Verb: api.Gain, Whom: api.You, Count: 1},
		}},
		{Name: "midas", Suit: 6, Kind: api.Unit, Cost: 7, Power: 4, Health: 4, Parts: []api.Part{
			{When: api.Always, Verb: api.Dye, Whom: api.All, Suit: 6},
			{When: api.Struck, Verb: api.Gain, Whom: api.You, Count: 1},
		}},
	}
}

func wantTraits() []api.Trait { return []api.Trait{api.Fixed} }

func wantMarks() []api.MarkInfo {
	return []api.MarkInfo{{Mark: 1, Name: "up", Power: 1, Health: 1}}
}

// asTold has cards with their parts as a nil list where there are none: nil and empty are the same.
func asTold(cards []api.Card) []api.Card {
	told := slices.Clone(cards)
	for i, c := range told {
		if len(c.Parts) == 0 {
			told[i].Parts = nil
		}
	}
	return told
}

// isWanted tells whether a list is the chapter's, in each field of each card and of each part.
func isWanted(cards []api.Card) bool { return reflect.DeepEqual(asTold(cards), wantCards()) }

// P13.1

func TestListIsTheSixCardsInTheirOrder(t *testing.T) {
	got, want := asTold(gold.List()), wantCards()
	if len(got) != len(want) {
		t.Fatalf("List has %d cards, want %d", len(got), len(want))
	}
	for i := range want {
		if !reflect.DeepEqual(got[i], want[i]) {
			t.Errorf("the card %d is %+v, want %+v", i, got[i], want[i])
		}
	}
}

// The texts are the chapter's own words for the parts.
func TestListAsTexts(t *testing.T) {
	want := []string{
		"treasure gold spell 1 | played gain you 2 | played call you 1 coin",
		"coin gold unit 0 1/1 token +fixed",
		"statue gold unit 2 0/6 +guard +fixed | played put self 1 3 | rather instead self 1",
		"idol gold relic 3 | always dye yours gold | begun put dyed 1 gold 1",
		"tax-man gold unit 3 2/3 | played drop foe 1 | begun gain you 1",
		"midas gold unit 7 4/4 | always dye all gold | struck gain you 1",
	}
	var got []string
	for _, c := range gold.List() {
		text, e := card.Print(c)
		if e != api.OK {
			t.Errorf("%s: Print refuses it with %v", c.Name, e)
		}
		got = append(got, text)
	}
	if !slices.Equal(got, want) {
		t.Errorf("the cards are %q, want %q", got, want)
	}
}

// valueOf is the value of one of rank's numbers, by its name.
func valueOf(t *testing.T, name string) int {
	t.Helper()
	k, ok := rank.Find(name)
	value, _, e := rank.Of(k)
	if !ok || e != api.OK {
		t.Fatalf("rank has no %s", name)
	}
	return value
}

func TestCardsAreMadeOfRanksValues(t *testing.T) {
	low, step, mid := valueOf(t, "low"), valueOf(t, "step"), valueOf(t, "mid")
	want := map[string][3]int{
		"treasure": {1, 0, 0},
		"coin":     {0, 1, 1},
		"statue":   {step, 0, mid - 1},
		"idol":     {low, 0, 0},
		"tax-man":  {low, step, low},
		"midas":    {mid, 4, 4},
	}
	list := gold.List()
	if len(list) != len(want) {
		t.Fatalf("List has %d cards, want %d", len(list), len(want))
	}
	for _, c := range list {
		if got := [3]int{c.Cost, c.Power, c.Health}; got != want[c.Name] {
			t.Errorf("%s: cost, power, health are %v, want %v", c.Name, got, want[c.Name])
		}
	}
}

func TestTraits(t *testing.T) {
	got := gold.Traits()
	if len(got) != 1 || got[0] != api.Fixed {
		t.Fatalf("Traits() = %v, want Fixed alone", got)
	}
	if home := trait.Home(got[0]); home != api.Gold {
		t.Errorf("the trait's home is %d, want Gold", home)
	}
}

func TestMarks(t *testing.T) {
	got := gold.Marks()
	want := api.MarkInfo{Mark: api.Up, Name: "up", Power: 1, Health: 1}
	if len(got) != 1 || got[0] != want {
		t.Errorf("Marks() = %+v, want %+v alone", got, want)
	}
}

func TestNumber(t *testing.T) {
	if got := gold.Number(); got != 215 {
		t.Errorf("Number() = %d, want 215", got)
	}
	if got, want := gold.Number(), fire.Number()+void.Number(); got != want {
		t.Errorf("Number() = %d, want fire's and void's together, %d", got, want)
	}
	if got, want := gold.Number()-fire.Number(), void.Number(); got != want {
		t.Errorf("Number() less fire's = %d, want void's, %d", got, want)
	}
}

// P13.1, all lists are new memory

// spoil writes over all that a list of cards reaches, its spare room too.
func spoil(cards []api.Card) {
	whole := cards[:cap(cards)]
	for _, c := range whole {
		parts := c.Parts[:cap(c.Parts)]
		for i := range parts {
			parts[i] = api.Part{When: 99, Verb: 99, Whom: 99, Count: 99, Suit: 99, Trait: 99, Mark: 99, Name: "spoilt"}
		}
	}
	for i := range whole {
		whole[i] = api.Card{Name: "spoilt", Suit: 99, Kind: 99, Cost: 99, Power: 99, Health: 99, Traits: 99, Token: true}
	}
}

func TestListIsNewMemory(t *testing.T) {
	before, spoilt := gold.List(), gold.List()
	spoil(spoilt)
	_ = append(spoilt, api.Card{Name: "more"})
	if !isWanted(before) {
		t.Errorf("a list changed with another one: %+v", before)
	}
	if got := gold.List(); !isWanted(got) {
		t.Errorf("List behind a change = %+v", got)
	}
}

// The parts of one card, with their spare room, are no other card's.
func TestPartsOfOneListShareNothing(t *testing.T) {
	want := wantCards()
	for i := range want {
		list := gold.List()
		if len(list) != len(want) {
			t.Fatalf("List has %d cards, want %d", len(list), len(want))
		}
		parts := list[i].Parts
		clear(parts[:cap(parts)])
		_ = append(parts[:0], make([]api.Part, cap(parts))...)
		for j, c := range asTold(list) {
			if j != i && !reflect.DeepEqual(c, want[j]) {
				t.Errorf("%s changed with the parts of %s: %+v", want[j].Name, want[i].Name, c)
			}
		}
	}
}

func TestTraitsAreNewMemory(t *testing.T) {
	before, spoilt := gold.Traits(), gold.Traits()
	whole := spoilt[:cap(spoilt)]
	for i := range whole {
		whole[i] = api.Mute
	}
	_ = append(spoilt, api.Mute)
	if !slices.Equal(before, wantTraits()) || !slices.Equal(gold.Traits(), wantTraits()) {
		t.Errorf("traits changed with other ones: %v, %v", before, gold.Traits())
	}
	if !isWanted(gold.List()) {
		t.Errorf("the cards changed with the traits: %+v", gold.List())
	}
}

func TestMarksAreNewMemory(t *testing.T) {
	before, spoilt := gold.Marks(), gold.Marks()
	whole := spoilt[:cap(spoilt)]
	for i := range whole {
		whole[i] = api.MarkInfo{Mark: api.Down, Name: "spoilt", Power: 9, Health: 9}
	}
	_ = append(spoilt, api.MarkInfo{Mark: api.Down, Name: "spoilt"})
	if !slices.Equal(before, wantMarks()) || !slices.Equal(gold.Marks(), wantMarks()) {
		t.Errorf("marks changed with other ones: %+v, %+v", before, gold.Marks())
	}
}

// What was told is the same behind whatever is called, and for whoever asks at once.
func TestTheSameForManyGoroutines(t *testing.T) {
	const askers = 16
	var cards [askers][]api.Card
	var traits [askers][]api.Trait
	var marks [askers][]api.MarkInfo
	var numbers [askers]int
	var notes [askers][]int
	var all sync.WaitGroup
	for i := range askers {
		all.Go(func() {
			spoil(gold.List())
			clear(gold.Traits())
			clear(gold.Marks())
			l := start.New()
			gold.Begin(l)
			l.Close()
			gold.Begin(l)
			cards[i], traits[i], marks[i] = gold.List(), gold.Traits(), gold.Marks()
			numbers[i], notes[i] = gold.Number(), l.List()
		})
	}
	all.Wait()
	for i := range askers {
		if !isWanted(cards[i]) || !slices.Equal(traits[i], wantTraits()) || !slices.Equal(marks[i], wantMarks()) || numbers[i] != 215 {
			t.Errorf("goroutine %d was told %+v, %v, %+v, %d", i, cards[i], traits[i], marks[i], numbers[i])
		}
		if want := []int{113, 213, 313}; !slices.Equal(notes[i], want) {
			t.Errorf("goroutine %d: its log is %v, want %v", i, notes[i], want)
		}
	}
}
