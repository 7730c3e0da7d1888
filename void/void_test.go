package void_test

import (
	"reflect"
	"slices"
	"sync"
	"testing"

	"gambit/air"
	"gambit/api"
	"gambit/card"
	"gambit/start"
	"gambit/suit"
	"gambit/trait"
	"gambit/void"
	"gambit/water"
)

const loneBit api.Traits = 8

// wantCards are the chapter's cards.
func wantCards() []api.Card {
	return []api.Card{
		{Name: "hush", Suit: 5, Kind: api.Spell, Cost: 2, Parts: []api.Part{
			{When: api.Played, Verb: api.Put, Whom: api.It, Count: 2, Mark: api.Down},
			{When: api.Played, Verb: api.Harm, Whom: api.It, Count: 1},
		}},
		{Name: "nullifier", Suit: 5, Kind: api.Unit, Cost: 4, Power: 2, Health: 4, Parts: []api.Part{
			{When: api.Always, Verb: api.Grant, Whom: api.Dyed, Suit: api.Fire, Trait: api.Mute},
			{When: api.Always, Verb: api.Strip, Whom: api.Theirs, Trait: api.Swift},
		}},
		{Name: "shade", Suit: 5, Kind: api.Unit, Power: 1, Health: 1, Traits: loneBit, Token: true},
		{Name: "thief", Suit: 5, Kind: api.Unit, Cost: 6, Power: 2, Health: 2, Traits: loneBit, Parts: []api.Part{
			{When: api.Always, Verb: api.Seize, Whom: api.With, Trait: api.Guard},
			{When: api.Broken, Verb: api.Harm, Whom: api.All, Count: 1},
		}},
		{Name: "hollow", Suit: 5, Kind: api.Relic, Cost: 3, Parts: []api.Part{
			{When: api.Rather, Verb: api.Twice, Whom: api.Foe},
			{When: api.Rather, Verb: api.Turned, Whom: api.You},
			{When: api.Always, Verb: api.Base, Whom: api.With, Count: 2, Trait: api.Drain},
		}},
		{Name: "echo", Suit: 5, Kind: api.Unit, Cost: 3, Power: 2, Health: 2, Parts: []api.Part{
			{When: api.Played, Verb: api.Call, Whom: api.You, Count: 2, Name: "wisp"},
			{When: api.Begun, Verb: api.Draw, Whom: api.You, Count: 1},
			{When: api.Broken, Verb: api.Call, Whom: api.Foe, Count: 1, Name: "shade"},
			{When: api.Always, Verb: api.Dye, Whom: api.Rest, Suit: api.Void},
		}},
	}
}

func wantTraits() []api.Trait { return []api.Trait{api.Mute} }

func wantMarks() []api.MarkInfo {
	return []api.MarkInfo{{Mark: api.Down, Name: "down", Power: -1, Health: -1}}
}

// asTold has cards with their parts as a nil list where there are none: nil and empty are the same.
func asTold(cards []api.Card) []api.Card {
	told := slices.Clone(cards)
	for i, c := range told {
		if len(c.Parts) == 0 {
			told[i].Parts = nil
		}
	}
	return told
}

// isWanted tells whether a list is the chapter's, in each field of each card and of each part.
func isWanted(cards []api.Card) bool { return reflect.DeepEqual(asTold(cards), wantCards()) }

// P12.1

func TestListIsTheSixCardsInTheirOrder(t *testing.T) {
	got, want := asTold(void.List()), wantCards()
	if len(got) != len(want) {
		t.Fatalf("List has %d cards, want %d", len(got), len(want))
	}
	for i := range want {
		if !reflect.DeepEqual(got[i], want[i]) {
			t.Errorf("the card %d is %+v, want %+v", i, got[i], want[i])
		}
	}
}

// The same cards once more, by their texts, so that a slip in the fields above would be seen.
func TestListAsTexts(t *testing.T) {
	want := []string{
		"hush void spell 2 | played put it 2 2 | played harm it 1",
		"nullifier void unit 4 2/4 | always grant dyed fire mute | always strip theirs swift",
		"shade void unit 0 1/1 token +lone",
		"thief void unit 6 2/2 +lone | always seize with guard | broken harm all 1",
		"hollow void relic 3 | rather twice foe | rather turned you | always base with 2 drain",
		"echo void unit 3 2/2 | played call you 2 wisp | begun draw you 1 | broken call foe 1 shade | always dye rest void",
	}
	var got []string
	for _, c := range void.List() {
		text, e := card.Print(c)
		if e != api.OK {
			t.Errorf("%s: Print refuses it with %v", c.Name, e)
		}
		got = append(got, text)
	}
	if !slices.Equal(got, want) {
		t.Errorf("the cards are %q, want %q", got, want)
	}
}

// P12.2

func TestTraits(t *testing.T) {
	got := void.Traits()
	if len(got) != 1 || got[0] != api.Mute {
		t.Fatalf("Traits() = %v, want Mute alone", got)
	}
	if home := trait.Home(got[0]); home != api.Void {
		t.Errorf("the trait's home is %d, want Void", home)
	}
}

func TestMarks(t *testing.T) {
	got := void.Marks()
	want := api.MarkInfo{Mark: 2, Name: "down", Power: -1, Health: -1}
	if len(got) != 1 || got[0] != want {
		t.Errorf("Marks() = %+v, want %+v alone", got, want)
	}
}

// P12.3

func TestNumber(t *testing.T) {
	if got := void.Number(); got != 147 {
		t.Errorf("Number() = %d, want 147", got)
	}
	want := air.Number() + 2*water.Number() + suit.Weight(api.Void)
	if got := void.Number(); got != want {
		t.Errorf("Number() = %d, want air's, twice water's and Void's weight together, %d", got, want)
	}
}

// P12.5, the answers are new memory

// spoil writes over all that a list of cards reaches, its spare room too.
func spoil(cards []api.Card) {
	whole := cards[:cap(cards)]
	for _, c := range whole {
		parts := c.Parts[:cap(c.Parts)]
		for i := range parts {
			parts[i] = api.Part{When: 99, Verb: 99, Whom: 99, Count: 99, Suit: 99, Trait: 99, Mark: 99, Name: "spoilt"}
		}
	}
	for i := range whole {
		whole[i] = api.Card{Name: "spoilt", Suit: 99, Kind: 99, Cost: 99, Power: 99, Health: 99, Traits: 99, Token: true}
	}
}

func TestListIsNewMemory(t *testing.T) {
	before, spoilt := void.List(), void.List()
	spoil(spoilt)
	_ = append(spoilt, api.Card{Name: "more"})
	if !isWanted(before) {
		t.Errorf("a list changed with another one: %+v", before)
	}
	if got := void.List(); !isWanted(got) {
		t.Errorf("List behind a change = %+v", got)
	}
}

// The parts of one card, with their spare room, are no other card's.
func TestPartsOfOneListShareNothing(t *testing.T) {
	want := wantCards()
	for i := range want {
		list := void.List()
		if len(list) != len(want) {
			t.Fatalf("List has %d cards, want %d", len(list), len(want))
		}
		parts := list[i].Parts
		clear(parts[:cap(parts)])
		_ = append(parts[:0], make([]api.Part, cap(parts))...)
		for j, c := range asTold(list) {
			if j != i && !reflect.DeepEqual(c, want[j]) {
				t.Errorf("%s changed with the parts of %s: %+v", want[j].Name, want[i].Name, c)
			}
		}
	}
}

func TestTraitsAreNewMemory(t *testing.T) {
	before, spoilt := void.Traits(), void.Traits()
	whole := spoilt[:cap(spoilt)]
	for i := range whole {
		whole[i] = api.Fast
	}
	_ = append(spoilt, api.Fast)
	if !slices.Equal(before, wantTraits()) || !slices.Equal(void.Traits(), wantTraits()) {
		t.Errorf("traits changed with other ones: %v, %v", before, void.Traits())
	}
	if !isWanted(void.List()) {
		t.Errorf("the cards changed with the traits: %+v", void.List())
	}
}

func TestMarksAreNewMemory(t *testing.T) {
	before, spoilt := void.Marks(), void.Marks()
	whole := spoilt[:cap(spoilt)]
	for i := range whole {
		whole[i] = api.MarkInfo{Mark: api.Up, Name: "spoilt", Power: 1, Health: 1}
	}
	_ = append(spoilt, api.MarkInfo{Mark: api.Up, Name: "spoilt"})
	if !slices.Equal(before, wantMarks()) || !slices.Equal(void.Marks(), wantMarks()) {
		t.Errorf("marks changed with other ones: %+v, %+v", before, void.Marks())
	}
	if !isWanted(void.List()) {
		t.Errorf("the cards changed with the marks: %+v", void.List())
	}
}

// The suits that the number is made of may be written over, too.
func TestNumberStaysBehindChangesElsewhere(t *testing.T) {
	spoil(void.List())
	spoil(air.List())
	spoil(water.List())
	clear(void.Marks())
	for range 3 {
		if got := void.Number(); got != 147 {
			t.Errorf("Number() behind changes = %d, want 147", got)
		}
	}
}

// What was told is the same behind whatever is called, and for whoever asks at once.
func TestTheSameForManyGoroutines(t *testing.T) {
	const askers = 16
	var cards [askers][]api.Card
	var traits [askers][]api.Trait
	var marks [askers][]api.MarkInfo
	var numbers [askers]int
	var notes [askers][]int
	var all sync.WaitGroup
	for i := range askers {
		all.Go(func() {
			spoil(void.List())
			clear(void.Traits())
			clear(void.Marks())
			l := start.New()
			void.Begin(l)
			l.Close()
			void.Begin(l)
			cards[i], traits[i], marks[i] = void.List(), void.Traits(), void.Marks()
			numbers[i], notes[i] = void.Number(), l.List()
		})
	}
	all.Wait()
	for i := range askers {
		if !isWanted(cards[i]) || !slices.Equal(traits[i], wantTraits()) || !slices.Equal(marks[i], wantMarks()) || numbers[i] != 147 {
			t.Errorf("goroutine %d was told %+v, %v, %+v, %d", i, cards[i], traits[i], marks[i], numbers[i])
		}
		if want := []int{112, 212, 312}; !slices.Equal(notes[i], want) {
			t.Errorf("goroutine %d: its log is %v, want %v", i, notes[i], want)
		}
	}
}
