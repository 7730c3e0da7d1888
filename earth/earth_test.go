package earth_test

import (
	"reflect"
	"slices"
	"sync"
	"testing"

	"gambit/api"
	"gambit/card"
	"gambit/earth"
	"gambit/rank"
	"gambit/start"
	"gambit/suit"
	"gambit/trait"
)

const guardBit api.Traits = 2

// wantCards are the chapter's cards.
func wantCards() []api.Card {
	return []api.Card{
		{Name: "boulder", Suit: 2, Kind: api.Unit, Cost: 2, Power: 1, Health: 4, Traits: guardBit, Parts: []api.Part{
			{When: api.Played, Verb: api.Put, Whom: api.Self, Count: 1, Mark: api.Shield},
			{When: api.Begun, Verb: api.Gain, Whom: api.You, Count: 1},
		}},
		{Name: "clay-man", Suit: 2, Kind: api.Unit, Cost: 3, Power: 2, Health: 3, Parts: []api.Part{
			{When: api.Broken, Verb: api.Call, Whom: api.You, Count: 1, Name: "pebble"},
			{When: api.Begun, Verb: api.Mend, Whom: api.Self, Count: 1},
		}},
		{Name: "pebble", Suit: 2, Kind: api.Unit, Power: 1, Health: 1, Token: true},
		{Name: "landslide", Suit: 2, Kind: api.Spell, Cost: 4, Parts: []api.Part{
			{When: api.Played, Verb: api.Harm, Whom: api.All, Count: 2},
			{When: api.Played, Verb: api.Break, Whom: api.With, Trait: api.Guard},
		}},
		{Name: "rampart", Suit: 2, Kind: api.Relic, Cost: 3, Parts: []api.Part{
			{When: api.Always, Verb: api.Raise, Whom: api.Dyed, Count: 1, Suit: api.Earth},
			{When: api.Always, Verb: api.Grant, Whom: api.Rest, Trait: api.Guard},
			{When: api.Rather, Verb: api.Less, Whom: api.Yours, Count: 1},
		}},
		{Name: "golem", Suit: 2, Kind: api.Unit, Cost: 5, Power: 4, Health: 5, Parts: []api.Part{
			{When: api.Struck, Verb: api.Mend, Whom: api.You, Count: 2},
			{When: api.Rather, Verb: api.Instead, Whom: api.Self, Count: 1},
			{When: api.Played, Verb: api.Call, Whom: api.Foe, Count: 1, Name: "ember"},
		}},
	}
}

func wantTraits() []api.Trait { return []api.Trait{api.Guard} }

func wantMarks() []api.MarkInfo {
	return []api.MarkInfo{{Mark: api.Shield, Name: "shield", Power: 0, Health: 0}}
}

// asTold has cards with their parts as a nil list where there are none: nil and empty are the same.
func asTold(cards []api.Card) []api.Card {
	told := slices.Clone(cards)
	for i, c := range told {
		if len(c.Parts) == 0 {
			told[i].Parts = nil
		}
	}
	return told
}

// isWanted tells whether a list is the chapter's, in each field of each card and of each part.
func isWanted(cards []api.Card) bool { return reflect.DeepEqual(asTold(cards), wantCards()) }

// P9.1

func TestListIsTheSixCardsInTheirOrder(t *testing.T) {
	got, want := asTold(earth.List()), wantCards()
	if len(got) != len(want) {
		t.Fatalf("List has %d cards, want %d", len(got), len(want))
	}
	for i := range want {
		if !reflect.DeepEqual(got[i], want[i]) {
			t.Errorf("the card %d is %+v, want %+v", i, got[i], want[i])
		}
	}
}

// The same cards once more, by their texts, so that a slip in the fields above would be seen.
func TestListAsTexts(t *testing.T) {
	want := []string{
		"boulder earth unit 2 1/4 +guard | played put self 1 3 | begun gain you 1",
		"clay-man earth unit 3 2/3 | broken call you 1 pebble | begun mend self 1",
		"pebble earth unit 0 1/1 token",
		"landslide earth spell 4 | played harm all 2 | played break with guard",
		"rampart earth relic 3 | always raise dyed 1 earth | always grant rest guard | rather less yours 1",
		"golem earth unit 5 4/5 | struck mend you 2 | rather instead self 1 | played call foe 1 ember",
	}
	var got []string
	for _, c := range earth.List() {
		text, e := card.Print(c)
		if e != api.OK {
			t.Errorf("%s: Print refuses it with %v", c.Name, e)
		}
		got = append(got, text)
	}
	if !slices.Equal(got, want) {
		t.Errorf("the cards are %q, want %q", got, want)
	}
}

// P9.2

func TestTraits(t *testing.T) {
	got := earth.Traits()
	if len(got) != 1 || got[0] != api.Guard {
		t.Fatalf("Traits() = %v, want Guard alone", got)
	}
	if home := trait.Home(got[0]); home != api.Earth {
		t.Errorf("the trait's home is %d, want Earth", home)
	}
}

func TestMarks(t *testing.T) {
	got := earth.Marks()
	want := api.MarkInfo{Mark: 3, Name: "shield", Power: 0, Health: 0}
	if len(got) != 1 || got[0] != want {
		t.Errorf("Marks() = %+v, want %+v alone", got, want)
	}
}

// P9.3

func TestNumber(t *testing.T) {
	if got := earth.Number(); got != 31 {
		t.Errorf("Number() = %d, want 31", got)
	}
	k, ok := rank.Find("high")
	value, _, e := rank.Of(k)
	if !ok || e != api.OK {
		t.Fatalf("rank has no high")
	}
	if got, want := earth.Number(), 10*suit.Weight(api.Earth)+value; got != want {
		t.Errorf("Number() = %d, want ten times Earth's weight and high's value, %d", got, want)
	}
}

// P9.5, the answers are new memory

// spoil writes over all that a list of cards reaches, its spare room too.
func spoil(cards []api.Card) {
	whole := cards[:cap(cards)]
	for _, c := range whole {
		parts := c.Parts[:cap(c.Parts)]
		for i := range parts {
			parts[i] = api.Part{When: 99, Verb: 99, Whom: 99, Count: 99, Suit: 99, Trait: 99, Mark: 99, Name: "spoilt"}
		}
	}
	for i := range whole {
		whole[i] = api.Card{Name: "spoilt", Suit: 99, Kind: 99, Cost: 99, Power: 99, Health: 99, Traits: 99, Token: true}
	}
}

func TestListIsNewMemory(t *testing.T) {
	before, spoilt := earth.List(), earth.List()
	spoil(spoilt)
	_ = append(spoilt, api.Card{Name: "more"})
	if !isWanted(before) {
		t.Errorf("a list changed with another one: %+v", before)
	}
	if got := earth.List(); !isWanted(got) {
		t.Errorf("List behind a change = %+v", got)
	}
}

// The parts of one card, with their spare room, are no other card's.
func TestPartsOfOneListShareNothing(t *testing.T) {
	want := wantCards()
	for i := range want {
		list := earth.List()
		parts := list[i].Parts
		clear(parts[:cap(parts)])
		_ = append(parts[:0], make([]api.Part, cap(parts))...)
		for j, c := range asTold(list) {
			if j != i && !reflect.DeepEqual(c, want[j]) {
				t.Errorf("%s changed with the parts of %s: %+v", want[j].Name, want[i].Name, c)
			}
		}
	}
}

func TestTraitsAreNewMemory(t *testing.T) {
	before, spoilt := earth.Traits(), earth.Traits()
	whole := spoilt[:cap(spoilt)]
	for i := range whole {
		whole[i] = api.Mute
	}
	_ = append(spoilt, api.Mute)
	if !slices.Equal(before, wantTraits()) || !slices.Equal(earth.Traits(), wantTraits()) {
		t.Errorf("traits changed with other ones: %v, %v", before, earth.Traits())
	}
	if !isWanted(earth.List()) {
		t.Errorf("the cards changed with the traits: %+v", earth.List())
	}
}

func TestMarksAreNewMemory(t *testing.T) {
	before, spoilt := earth.Marks(), earth.Marks()
	whole := spoilt[:cap(spoilt)]
	for i := range whole {
		whole[i] = api.MarkInfo{Mark: api.Up, Name: "spoilt", Power: 1, Health: 1}
	}
	_ = append(spoilt, api.MarkInfo{Mark: api.Up, Name: "spoilt"})
	if !slices.Equal(before, wantMarks()) || !slices.Equal(earth.Marks(), wantMarks()) {
		t.Errorf("marks changed with other ones: %+v, %+v", before, earth.Marks())
	}
}

// What was told is the same behind whatever is called, and for whoever asks at once.
func TestTheSameForManyGoroutines(t *testing.T) {
	const askers = 16
	var cards [askers][]api.Card
	var traits [askers][]api.Trait
	var marks [askers][]api.MarkInfo
	var numbers [askers]int
	var notes [askers][]int
	var all sync.WaitGroup
	for i := range askers {
		all.Go(func() {
			spoil(earth.List())
			clear(earth.Traits())
			clear(earth.Marks())
			l := start.New()
			earth.Begin(l)
			l.Close()
			earth.Begin(l)
			cards[i], traits[i], marks[i] = earth.List(), earth.Traits(), earth.Marks()
			numbers[i], notes[i] = earth.Number(), l.List()
		})
	}
	all.Wait()
	for i := range askers {
		if !isWanted(cards[i]) || !slices.Equal(traits[i], wantTraits()) || !slices.Equal(marks[i], wantMarks()) || numbers[i] != 31 {
			t.Errorf("goroutine %d was told %+v, %v, %+v, %d", i, cards[i], traits[i], marks[i], numbers[i])
		}
		if want := []int{109, 209, 309}; !slices.Equal(notes[i], want) {
			t.Errorf("goroutine %d: its log is %v, want %v", i, notes[i], want)
		}
	}
}
