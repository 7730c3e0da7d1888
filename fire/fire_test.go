package fire_test

import (
	"reflect"
	"slices"
	"sync"
	"testing"

	"gambit/api"
	"gambit/card"
	"gambit/fire"
	"gambit/rank"
	"gambit/start"
	"gambit/trait"
)

const (
	fastBit  api.Traits = 1
	venomBit api.Traits = 4
)

// wantCards are the chapter's cards, with rank's values written out.
func wantCards() []api.Card {
	return []api.Card{
		{Name: "fire-bolt", Suit: 3, Kind: api.Spell, Cost: 2, Parts: []api.Part{
			{When: api.Played, Verb: api.Harm, Whom: api.It, Count: 3},
		}},
		{Name: "ember", Suit: 3, Kind: api.Unit, Power: 1, Health: 1, Traits: fastBit, Token: true},
		{Name: "salamander", Suit: 3, Kind: api.Unit, Cost: 3, Power: 3, Health: 3, Traits: venomBit, Parts: []api.Part{
			{When: api.Struck, Verb: api.Put, Whom: api.Self, Count: 1, Mark: 4},
		}},
		{Name: "forge", Suit: 3, Kind: api.Relic, Cost: 4, Parts: []api.Part{
			{When: api.Begun, Verb: api.Call, Whom: api.You, Count: 1, Name: "ember"},
			{When: api.Rather, Verb: api.Twice, Whom: api.Foe},
		}},
		{Name: "wild-fire", Suit: 3, Kind: api.Spell, Cost: 6, Parts: []api.Part{
			{When: api.Played, Verb: api.Harm, Whom: api.All, Count: 2},
			{When: api.Played, Verb: api.Break, Whom: api.With, Trait: api.Guard},
		}},
		{Name: "phoenix", Suit: 3, Kind: api.Unit, Cost: 5, Power: 4, Health: 2, Traits: fastBit, Parts: []api.Part{
			{When: api.Broken, Verb: api.Call, Whom: api.You, Count: 1, Name: "ember"},
			{When: api.Always, Verb: api.Base, Whom: api.With, Count: 1, Trait: api.Guard},
		}},
	}
}

func wantTraits() []api.Trait { return []api.Trait{api.Venom} }

func wantMarks() []api.MarkInfo {
	return []api.MarkInfo{{Mark: 4, Name: "charge", Power: 0, Health: 0}}
}

// asTold has cards with their parts as a nil list where there are none: nil and empty are the same.
func asTold(cards []api.Card) []api.Card {
	told := slices.Clone(cards)
	for i, c := range told {
		if len(c.Parts) == 0 {
			told[i].Parts = nil
		}
	}
	return told
}

// isWanted tells whether a list is the chapter's, in each field of each card and of each part.
func isWanted(cards []api.Card) bool { return reflect.DeepEqual(asTold(cards), wantCards()) }

// P10.1

func TestListIsTheSixCardsInTheirOrder(t *testing.T) {
	got, want := asTold(fire.List()), wantCards()
	if len(got) != len(want) {
		t.Fatalf("List has %d cards, want %d", len(got), len(want))
	}
	for i := range want {
		if !reflect.DeepEqual(got[i], want[i]) {
			t.Errorf("the card %d is %+v, want %+v", i, got[i], want[i])
		}
	}
}

// The texts are the chapter's own words for the parts.
func TestListAsTexts(t *testing.T) {
	want := []string{
		"fire-bolt fire spell 2 | played harm it 3",
		"ember fire unit 0 1/1 token +fast",
		"salamander fire unit 3 3/3 +venom | struck put self 1 4",
		"forge fire relic 4 | begun call you 1 ember | rather twice foe",
		"wild-fire fire spell 6 | played harm all 2 | played break with guard",
		"phoenix fire unit 5 4/2 +fast | broken call you 1 ember | always base with 1 guard",
	}
	var got []string
	for _, c := range fire.List() {
		text, e := card.Print(c)
		if e != api.OK {
			t.Errorf("%s: Print refuses it with %v", c.Name, e)
		}
		got = append(got, text)
	}
	if !slices.Equal(got, want) {
		t.Errorf("the cards are %q, want %q", got, want)
	}
}

// numberOf is the value and the turn of one of rank's numbers, by its name.
func numberOf(t *testing.T, name string) (value, turn int) {
	t.Helper()
	k, ok := rank.Find(name)
	value, turn, e := rank.Of(k)
	if !ok || e != api.OK {
		t.Fatalf("rank has no %s", name)
	}
	return value, turn
}

func TestCardsAreMadeOfRanksValues(t *testing.T) {
	low, _ := numberOf(t, "low")
	step, _ := numberOf(t, "step")
	mid, _ := numberOf(t, "mid")
	want := map[string][3]int{
		"fire-bolt":  {step, 0, 0},
		"ember":      {0, 1, 1},
		"salamander": {low, low, low},
		"forge":      {4, 0, 0},
		"wild-fire":  {mid - 1, 0, 0},
		"phoenix":    {5, 4, step},
	}
	list := fire.List()
	if len(list) != len(want) {
		t.Fatalf("List has %d cards, want %d", len(list), len(want))
	}
	for _, c := range list {
		if got := [3]int{c.Cost, c.Power, c.Health}; got != want[c.Name] {
			t.Errorf("%s: cost, power, health are %v, want %v", c.Name, got, want[c.Name])
		}
	}
}

func TestTraits(t *testing.T) {
	got := fire.Traits()
	if len(got) != 1 || got[0] != api.Venom {
		t.Fatalf("Traits() = %v, want Venom alone", got)
	}
	if home := trait.Home(got[0]); home != api.Fire {
		t.Errorf("the trait's home is %d, want Fire", home)
	}
}

func TestMarks(t *testing.T) {
	got := fire.Marks()
	want := api.MarkInfo{Mark: api.Charge, Name: "charge", Power: 0, Health: 0}
	if len(got) != 1 || got[0] != want {
		t.Errorf("Marks() = %+v, want %+v alone", got, want)
	}
}

func TestNumber(t *testing.T) {
	if got := fire.Number(); got != 68 {
		t.Errorf("Number() = %d, want 68", got)
	}
	value, turn := numberOf(t, "top")
	if got, want := fire.Number(), value+10*turn; got != want {
		t.Errorf("Number() = %d, want top's value and ten times its turn, %d", got, want)
	}
}

// P10.1, all lists are new memory

// spoil writes over all that a list of cards reaches, its spare room too.
func spoil(cards []api.Card) {
	whole := cards[:cap(cards)]
	for _, c := range whole {
		parts := c.Parts[:cap(c.Parts)]
		for i := range parts {
			parts[i] = api.Part{When: 99, Verb: 99, Whom: 99, Count: 99, Suit: 99, Trait: 99, Mark: 99, Name: "spoilt"}
		}
	}
	for i := range whole {
		whole[i] = api.Card{Name: "spoilt", Suit: 99, Kind: 99, Cost: 99, Power: 99, Health: 99, Traits: 99, Token: true}
	}
}

func TestListIsNewMemory(t *testing.T) {
	before, spoilt := fire.List(), fire.List()
	spoil(spoilt)
	_ = append(spoilt, api.Card{Name: "more"})
	if !isWanted(before) {
		t.Errorf("a list changed with another one: %+v", before)
	}
	if got := fire.List(); !isWanted(got) {
		t.Errorf("List behind a change = %+v", got)
	}
}

// The parts of one card, with their spare room, are no other card's.
func TestPartsOfOneListShareNothing(t *testing.T) {
	want := wantCards()
	for i := range want {
		list := fire.List()
		if len(list) != len(want) {
			t.Fatalf("List has %d cards, want %d", len(list), len(want))
		}
		parts := list[i].Parts
		clear(parts[:cap(parts)])
		_ = append(parts[:0], make([]api.Part, cap(parts))...)
		for j, c := range asTold(list) {
			if j != i && !reflect.DeepEqual(c, want[j]) {
				t.Errorf("%s changed with the parts of %s: %+v", want[j].Name, want[i].Name, c)
			}
		}
	}
}

func TestTraitsAreNewMemory(t *testing.T) {
	before, spoilt := fire.Traits(), fire.Traits()
	whole := spoilt[:cap(spoilt)]
	for i := range whole {
		whole[i] = api.Mute
	}
	_ = append(spoilt, api.Mute)
	if !slices.Equal(before, wantTraits()) || !slices.Equal(fire.Traits(), wantTraits()) {
		t.Errorf("traits changed with other ones: %v, %v", before, fire.Traits())
	}
	if !isWanted(fire.List()) {
		t.Errorf("the cards changed with the traits: %+v", fire.List())
	}
}

func TestMarksAreNewMemory(t *testing.T) {
	before, spoilt := fire.Marks(), fire.Marks()
	whole := spoilt[:cap(spoilt)]
	for i := range whole {
		whole[i] = api.MarkInfo{Mark: api.Up, Name: "spoilt", Power: 1, Health: 1}
	}
	_ = append(spoilt, api.MarkInfo{Mark: api.Up, Name: "spoilt"})
	if !slices.Equal(before, wantMarks()) || !slices.Equal(fire.Marks(), wantMarks()) {
		t.Errorf("marks changed with other ones: %+v, %+v", before, fire.Marks())
	}
}

// What was told is the same behind whatever is called, and for whoever asks at once.
func TestTheSameForManyGoroutines(t *testing.T) {
	const askers = 16
	var cards [askers][]api.Card
	var traits [askers][]api.Trait
	var marks [askers][]api.MarkInfo
	var numbers [askers]int
	var notes [askers][]int
	var all sync.WaitGroup
	for i := range askers {
		all.Go(func() {
			spoil(fire.List())
			clear(fire.Traits())
			clear(fire.Marks())
			l := start.New()
			fire.Begin(l)
			l.Close()
			fire.Begin(l)
			cards[i], traits[i], marks[i] = fire.List(), fire.Traits(), fire.Marks()
			numbers[i], notes[i] = fire.Number(), l.List()
		})
	}
	all.Wait()
	for i := range askers {
		if !isWanted(cards[i]) || !slices.Equal(traits[i], wantTraits()) || !slices.Equal(marks[i], wantMarks()) || numbers[i] != 68 {
			t.Errorf("goroutine %d was told %+v, %v, %+v, %d", i, cards[i], traits[i], marks[i], numbers[i])
		}
		if want := []int{110, 210, 310}; !slices.Equal(notes[i], want) {
			t.Errorf("goroutine %d: its log is %v, want %v", i, notes[i], want)
		}
	}
}
