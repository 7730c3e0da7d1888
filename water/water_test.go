package water_test

import (
	"reflect"
	"slices"
	"sync"
	"testing"

	"gambit/api"
	"gambit/card"
	"gambit/rank"
	"gambit/start"
	"gambit/trait"
	"gambit/water"
)

const (
	loneBit  api.Traits = 8
	drainBit api.Traits = 16
)

// wantCards are the chapter's cards, with rank's values written out.
func wantCards() []api.Card {
	return []api.Card{
		{Name: "dew", Suit: 4, Kind: api.Unit, Cost: 1, Power: 1, Health: 2, Traits: loneBit, Parts: []api.Part{
			{When: api.Broken, Verb: api.Draw, Whom: api.You, Count: 1},
		}},
		{Name: "tide", Suit: 4, Kind: api.Spell, Cost: 4, Parts: []api.Part{
			{When: api.Played, Verb: api.Back, Whom: api.Theirs},
			{When: api.Played, Verb: api.Drop, Whom: api.Foe, Count: 1},
		}},
		{Name: "drop", Suit: 4, Kind: api.Unit, Power: 1, Health: 1, Traits: drainBit, Token: true},
		{Name: "siren", Suit: 4, Kind: api.Unit, Cost: 5, Power: 1, Health: 3, Parts: []api.Part{
			{When: api.Always, Verb: api.Seize, Whom: api.Dyed, Suit: 3},
			{When: api.Always, Verb: api.Strip, Whom: api.Theirs, Trait: 2},
			{When: api.Begun, Verb: api.Harm, Whom: api.Foe, Count: 1},
		}},
		{Name: "spring", Suit: 4, Kind: api.Relic, Cost: 2, Parts: []api.Part{
			{When: api.Rather, Verb: api.Instead, Whom: api.You, Count: 1},
			{When: api.Begun, Verb: api.Mend, Whom: api.Yours, Count: 1},
		}},
		{Name: "mirror", Suit: 4, Kind: api.Unit, Cost: 4, Power: 2, Health: 4, Parts: []api.Part{
			{When: api.Rather, Verb: api.Turned, Whom: api.Self},
			{When: api.Played, Verb: api.Call, Whom: api.Foe, Count: 1, Name: "wisp"},
		}},
	}
}

func wantTraits() []api.Trait { return []api.Trait{api.Lone, api.Drain} }

// asTold has cards with their parts as a nil list where there are none: nil and empty are the same.
func asTold(cards []api.Card) []api.Card {
	told := slices.Clone(cards)
	for i, c := range told {
		if len(c.Parts) == 0 {
			told[i].Parts = nil
		}
	}
	return told
}

// isWanted tells whether a list is the chapter's, in each field of each card and of each part.
func isWanted(cards []api.Card) bool { return reflect.DeepEqual(asTold(cards), wantCards()) }

// P11.1

func TestListIsTheSixCardsInTheirOrder(t *testing.T) {
	got, want := asTold(water.List()), wantCards()
	if len(got) != len(want) {
		t.Fatalf("List has %d cards, want %d", len(got), len(want))
	}
	for i := range want {
		if !reflect.DeepEqual(got[i], want[i]) {
			t.Errorf("the card %d is %+v, want %+v", i, got[i], want[i])
		}
	}
}

// The texts are the chapter's own words for the parts.
func TestListAsTexts(t *testing.T) {
	want := []string{
		"dew water unit 1 1/2 +lone | broken draw you 1",
		"tide water spell 4 | played back theirs | played drop foe 1",
		"drop water unit 0 1/1 token +drain",
		"siren water unit 5 1/3 | always seize dyed fire | always strip theirs guard | begun harm foe 1",
		"spring water relic 2 | rather instead you 1 | begun mend yours 1",
		"mirror water unit 4 2/4 | rather turned self | played call foe 1 wisp",
	}
	var got []string
	for _, c := range water.List() {
		text, e := card.Print(c)
		if e != api.OK {
			t.Errorf("%s: Print refuses it with %v", c.Name, e)
		}
		got = append(got, text)
	}
	if !slices.Equal(got, want) {
		t.Errorf("the cards are %q, want %q", got, want)
	}
}

// numberOf is the value and the turn of one of rank's numbers, by its name.
func numberOf(t *testing.T, name string) (value, turn int) {
	t.Helper()
	k, ok := rank.Find(name)
	value, turn, e := rank.Of(k)
	if !ok || e != api.OK {
		t.Fatalf("rank has no %s", name)
	}
	return value, turn
}

func TestCardsAreMadeOfRanksValues(t *testing.T) {
	low, _ := numberOf(t, "low")
	step, _ := numberOf(t, "step")
	want := map[string][3]int{
		"dew":    {1, 1, step},
		"tide":   {4, 0, 0},
		"drop":   {0, 1, 1},
		"siren":  {low + step, 1, low},
		"spring": {step, 0, 0},
		"mirror": {4, step, 4},
	}
	list := water.List()
	if len(list) != len(want) {
		t.Fatalf("List has %d cards, want %d", len(list), len(want))
	}
	for _, c := range list {
		if got := [3]int{c.Cost, c.Power, c.Health}; got != want[c.Name] {
			t.Errorf("%s: cost, power, health are %v, want %v", c.Name, got, want[c.Name])
		}
	}
}

func TestTraits(t *testing.T) {
	got := water.Traits()
	if len(got) != 2 || !slices.Equal(got, wantTraits()) {
		t.Fatalf("Traits() = %v, want Lone, Drain", got)
	}
	for i, name := range []string{"lone", "drain"} {
		if got, home := trait.Name(got[i]), trait.Home(got[i]); got != name || home != api.Water {
			t.Errorf("the trait %d has the name %q and the home %d, want %q, Water", i, got, home, name)
		}
	}
}

func TestMarks(t *testing.T) {
	if got := water.Marks(); len(got) != 0 {
		t.Errorf("Marks() = %+v, want none", got)
	}
}

func TestNumber(t *testing.T) {
	if got := water.Number(); got != 51 {
		t.Errorf("Number() = %d, want 51", got)
	}
	value, turn := numberOf(t, "high")
	if got, want := water.Number(), value+10*turn; got != want {
		t.Errorf("Number() = %d, want high's value and ten times its turn, %d", got, want)
	}
}

// P11.1, all lists are new memory

// spoil writes over all that a list of cards reaches, its spare room too.
func spoil(cards []api.Card) {
	whole := cards[:cap(cards)]
	for _, c := range whole {
		parts := c.Parts[:cap(c.Parts)]
		for i := range parts {
			parts[i] = api.Part{When: 99, Verb: 99, Whom: 99, Count: 99, Suit: 99, Trait: 99, Mark: 99, Name: "spoilt"}
		}
	}
	for i := range whole {
		whole[i] = api.Card{Name: "spoilt", Suit: 99, Kind: 99, Cost: 99, Power: 99, Health: 99, Traits: 99, Token: true}
	}
}

func TestListIsNewMemory(t *testing.T) {
	before, spoilt := water.List(), water.List()
	spoil(spoilt)
	_ = append(spoilt, api.Card{Name: "more"})
	if !isWanted(before) {
		t.Errorf("a list changed with another one: %+v", before)
	}
	if got := water.List(); !isWanted(got) {
		t.Errorf("List behind a change = %+v", got)
	}
}

// The parts of one card, with their spare room, are no other card's.
func TestPartsOfOneListShareNothing(t *testing.T) {
	want := wantCards()
	for i := range want {
		list := water.List()
		if len(list) != len(want) {
			t.Fatalf("List has %d cards, want %d", len(list), len(want))
		}
		parts := list[i].Parts
		clear(parts[:cap(parts)])
		_ = append(parts[:0], make([]api.Part, cap(parts))...)
		for j, c := range asTold(list) {
			if j != i && !reflect.DeepEqual(c, want[j]) {
				t.Errorf("%s changed with the parts of %s: %+v", want[j].Name, want[i].Name, c)
			}
		}
	}
}

func TestTraitsAreNewMemory(t *testing.T) {
	before, spoilt := water.Traits(), water.Traits()
	whole := spoilt[:cap(spoilt)]
	for i := range whole {
		whole[i] = api.Mute
	}
	_ = append(spoilt, api.Mute)
	if !slices.Equal(before, wantTraits()) || !slices.Equal(water.Traits(), wantTraits()) {
		t.Errorf("traits changed with other ones: %v, %v", before, water.Traits())
	}
	if !isWanted(water.List()) {
		t.Errorf("the cards changed with the traits: %+v", water.List())
	}
}

func TestMarksAreNewMemory(t *testing.T) {
	before, spoilt := water.Marks(), water.Marks()
	whole := spoilt[:cap(spoilt)]
	for i := range whole {
		whole[i] = api.MarkInfo{Mark: api.Up, Name: "spoilt", Power: 1, Health: 1}
	}
	_ = append(spoilt, api.MarkInfo{Mark: api.Up, Name: "spoilt"})
	later := water.Marks()
	if len(before) != 0 || len(later) != 0 {
		t.Errorf("marks changed with other ones: %+v, %+v", before, later)
	}
	for _, m := range slices.Concat(before[:cap(before)], later[:cap(later)]) {
		if m != (api.MarkInfo{}) {
			t.Errorf("the spare room of marks was handed out twice: %+v", m)
		}
	}
}

// What was told is the same behind whatever is called, and for whoever asks at once.
func TestTheSameForManyGoroutines(t *testing.T) {
	const askers = 16
	var cards [askers][]api.Card
	var traits [askers][]api.Trait
	var marks [askers][]api.MarkInfo
	var numbers [askers]int
	var notes [askers][]int
	var all sync.WaitGroup
	for i := range askers {
		all.Go(func() {
			spoil(water.List())
			clear(water.Traits())
			l := start.New()
			water.Begin(l)
			l.Close()
			water.Begin(l)
			cards[i], traits[i], marks[i] = water.List(), water.Traits(), water.Marks()
			numbers[i], notes[i] = water.Number(), l.List()
		})
	}
	all.Wait()
	for i := range askers {
		if !isWanted(cards[i]) || !slices.Equal(traits[i], wantTraits()) || len(marks[i]) != 0 || numbers[i] != 51 {
			t.Errorf("goroutine %d was told %+v, %v, %+v, %d", i, cards[i], traits[i], marks[i], numbers[i])
		}
		if want := []int{111, 211, 311}; !slices.Equal(notes[i], want) {
			t.Errorf("goroutine %d: its log is %v, want %v", i, notes[i], want)
		}
	}
}
