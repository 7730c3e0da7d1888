package air_test

import (
	"reflect"
	"slices"
	"sync"
	"testing"

	"gambit/air"
	"gambit/api"
	"gambit/book"
	"gambit/card"
	"gambit/rank"
	"gambit/start"
	"gambit/trait"
)

const (
	fastBit  api.Traits = 1
	swiftBit api.Traits = 128
)

// wantCards are the chapter's cards, with rank's values written out.
func wantCards() []api.Card {
	return []api.Card{
		{Name: "breeze", Suit: 1, Kind: api.Spell, Cost: 2, Parts: []api.Part{
			{When: api.Played, Verb: api.Back, Whom: api.It},
			{When: api.Played, Verb: api.Draw, Whom: api.You, Count: 1},
		}},
		{Name: "wisp", Suit: 1, Kind: api.Unit, Power: 1, Health: 1, Traits: fastBit, Token: true},
		{Name: "kite", Suit: 1, Kind: api.Unit, Cost: 2, Power: 2, Health: 1, Traits: fastBit, Parts: []api.Part{
			{When: api.Struck, Verb: api.Draw, Whom: api.You, Count: 1},
		}},
		{Name: "swift-wing", Suit: 1, Kind: api.Unit, Cost: 3, Power: 2, Health: 3, Traits: swiftBit, Parts: []api.Part{
			{When: api.Always, Verb: api.Grant, Whom: api.Rest, Trait: api.Fast},
		}},
		{Name: "flock", Suit: 1, Kind: api.Unit, Cost: 4, Power: 1, Health: 4, Parts: []api.Part{
			{When: api.Played, Verb: api.Call, Whom: api.You, Count: 2, Name: "wisp"},
			{When: api.Always, Verb: api.Raise, Whom: api.Dyed, Count: 1, Suit: api.Air},
		}},
		{Name: "calm", Suit: 1, Kind: api.Relic, Cost: 3, Parts: []api.Part{
			{When: api.Rather, Verb: api.Less, Whom: api.You, Count: 1},
			{When: api.Begun, Verb: api.Mend, Whom: api.You, Count: 1},
		}},
	}
}

func wantTraits() []api.Trait { return []api.Trait{api.Fast, api.Swift} }

// asTold has cards with their parts as a nil list where there are none: nil and empty are the same.
func asTold(cards []api.Card) []api.Card {
	told := slices.Clone(cards)
	for i, c := range told {
		if len(c.Parts) == 0 {
			told[i].Parts = nil
		}
	}
	return told
}

// isWanted tells whether a list is the chapter's, in each field of each card and of each part.
func isWanted(cards []api.Card) bool { return reflect.DeepEqual(asTold(cards), wantCards()) }

// P8.1

func TestListIsTheSixCardsInTheirOrder(t *testing.T) {
	got, want := asTold(air.List()), wantCards()
	if len(got) != len(want) {
		t.Fatalf("List has %d cards, want %d", len(got), len(want))
	}
	for i := range want {
		if !reflect.DeepEqual(got[i], want[i]) {
			t.Errorf("the card %d is %+v, want %+v", i, got[i], want[i])
		}
	}
}

// The texts are the chapter's own words for the parts.
func TestListAsTexts(t *testing.T) {
	want := []string{
		"breeze air spell 2 | played back it | played draw you 1",
		"wisp air unit 0 1/1 token +fast",
		"kite air unit 2 2/1 +fast | struck draw you 1",
		"swift-wing air unit 3 2/3 +swift | always grant rest fast",
		"flock air unit 4 1/4 | played call you 2 wisp | always raise dyed 1 air",
		"calm air relic 3 | rather less you 1 | begun mend you 1",
	}
	var got []string
	for _, c := range air.List() {
		text, e := card.Print(c)
		if e != api.OK {
			t.Errorf("%s: Print refuses it with %v", c.Name, e)
		}
		got = append(got, text)
	}
	if !slices.Equal(got, want) {
		t.Errorf("the cards are %q, want %q", got, want)
	}
}

// valueOf is the value of one of rank's numbers, by its name.
func valueOf(t *testing.T, name string) int {
	t.Helper()
	k, ok := rank.Find(name)
	value, _, e := rank.Of(k)
	if !ok || e != api.OK {
		t.Fatalf("rank has no %s", name)
	}
	return value
}

func TestCardsAreMadeOfRanksValues(t *testing.T) {
	low, step := valueOf(t, "low"), valueOf(t, "step")
	want := map[string][3]int{
		"breeze":     {step, 0, 0},
		"wisp":       {0, 1, 1},
		"kite":       {step, step, 1},
		"swift-wing": {low, step, low},
		"flock":      {4, 1, 4},
		"calm":       {low, 0, 0},
	}
	for _, c := range air.List() {
		if got := [3]int{c.Cost, c.Power, c.Health}; got != want[c.Name] {
			t.Errorf("%s: cost, power, health are %v, want %v", c.Name, got, want[c.Name])
		}
	}
}

func TestTraits(t *testing.T) {
	got := air.Traits()
	if len(got) != 2 || !slices.Equal(got, wantTraits()) {
		t.Errorf("Traits() = %v, want Fast, Swift", got)
	}
	for i, name := range []string{"fast", "swift"} {
		if got := trait.Name(air.Traits()[i]); got != name {
			t.Errorf("the trait %d has the name %q, want %q", i, got, name)
		}
	}
}

func TestMarks(t *testing.T) {
	if got := air.Marks(); len(got) != 0 {
		t.Errorf("Marks() = %v, want none", got)
	}
}

func TestNumber(t *testing.T) {
	if got := air.Number(); got != 27 {
		t.Errorf("Number() = %d, want 27", got)
	}
	k, _ := rank.Find("mid")
	value, turn, _ := rank.Of(k)
	if got, want := air.Number(), value+10*turn; got != want {
		t.Errorf("Number() = %d, want mid's value and ten times its turn, %d", got, want)
	}
}

// spoil writes over all that a list of cards reaches, its spare room too.
func spoil(cards []api.Card) {
	for _, c := range cards[:cap(cards)] {
		parts := c.Parts[:cap(c.Parts)]
		for i := range parts {
			parts[i] = api.Part{When: 99, Verb: 99, Whom: 99, Count: 99, Suit: 99, Trait: 99, Mark: 99, Name: "spoilt"}
		}
	}
	for i := range cards[:cap(cards)] {
		cards[:cap(cards)][i] = api.Card{Name: "spoilt", Suit: 99, Kind: 99, Cost: 99, Power: 99, Health: 99, Traits: 99, Token: true}
	}
}

func TestListIsNewMemory(t *testing.T) {
	before, spoilt := air.List(), air.List()
	spoil(spoilt)
	_ = append(spoilt, api.Card{Name: "more"})
	if !isWanted(before) {
		t.Errorf("a list changed with another one: %+v", before)
	}
	if got := air.List(); !isWanted(got) {
		t.Errorf("List behind a change = %+v", got)
	}
}

// The parts of one card, with their spare room, are no other card's.
func TestPartsOfOneListShareNothing(t *testing.T) {
	for i, name := range []string{"breeze", "wisp", "kite", "swift-wing", "flock", "calm"} {
		list, want := air.List(), wantCards()
		parts := list[i].Parts
		clear(parts[:cap(parts)])
		_ = append(parts[:0], make([]api.Part, cap(parts))...)
		for j, c := range asTold(list) {
			if j != i && !reflect.DeepEqual(c, want[j]) {
				t.Errorf("%s changed with the parts of %s: %+v", want[j].Name, name, c)
			}
		}
	}
}

func TestTraitsAndMarksAreNewMemory(t *testing.T) {
	before, traits, marks := air.Traits(), air.Traits(), air.Marks()
	for i := range traits[:cap(traits)] {
		traits[:cap(traits)][i] = api.Mute
	}
	_ = append(traits, api.Mute)
	for i := range marks[:cap(marks)] {
		marks[:cap(marks)][i] = api.MarkInfo{Mark: api.Up, Name: "spoilt"}
	}
	_ = append(marks, api.MarkInfo{Mark: api.Up, Name: "spoilt"})
	if !slices.Equal(before, wantTraits()) || !slices.Equal(air.Traits(), wantTraits()) {
		t.Errorf("traits changed with other ones: %v, %v", before, air.Traits())
	}
	if got := air.Marks(); len(got) != 0 {
		t.Errorf("Marks behind a change = %v", got)
	}
	if !isWanted(air.List()) {
		t.Errorf("the cards changed with the traits: %+v", air.List())
	}
}

// What was told is the same behind whatever is called, and for whoever asks at once.
func TestTheSameForManyGoroutines(t *testing.T) {
	cards := make([][]api.Card, 16)
	traits := make([][]api.Trait, 16)
	numbers := make([]int, 16)
	notes := make([][]int, 16)
	var all sync.WaitGroup
	for i := range cards {
		all.Go(func() {
			spoil(air.List())
			clear(air.Traits())
			l := start.New()
			air.Begin(l)
			l.Close()
			air.Begin(l)
			cards[i], traits[i], numbers[i], notes[i] = air.List(), air.Traits(), air.Number(), l.List()
		})
	}
	all.Wait()
	for i := range cards {
		if !isWanted(cards[i]) || !slices.Equal(traits[i], wantTraits()) || numbers[i] != 27 {
			t.Errorf("goroutine %d was told %+v, %v, %d", i, cards[i], traits[i], numbers[i])
		}
		if want := []int{108, 208, 308}; !slices.Equal(notes[i], want) {
			t.Errorf("goroutine %d: its log is %v, want %v", i, notes[i], want)
		}
	}
}

// P8.2 (with all layers that begin, in more logs: package noting)

// filled is a log that holds so many notes, each a 7.
func filled(count int) *start.Log {
	l := start.New()
	for range count {
		l.Note(7)
	}
	return l
}

func closed(l *start.Log) *start.Log {
	l.Close()
	return l
}

func TestBegin(t *testing.T) {
	rows := []struct {
		of   string
		log  *start.Log
		want []int // what is noted
	}{
		{"a new log", start.New(), []int{108, 208, 308}},
		{"a log with notes", filled(5), []int{108, 208, 308}},
		{"a log with room for four", filled(api.MaxNotes - 4), []int{108, 208, 308}},
		{"a log with room for three", filled(api.MaxNotes - 3), []int{108, 208, 308}},
		{"a log with room for two", filled(api.MaxNotes - 2), []int{108, 208}},
		{"a log with room for one", filled(api.MaxNotes - 1), []int{108}},
		{"a full log", filled(api.MaxNotes), nil},
		{"a closed log", closed(start.New()), nil},
		{"a closed log with notes", closed(filled(5)), nil},
		{"a closed full log", closed(filled(api.MaxNotes)), nil},
		{"nil", nil, nil},
		{"what is no log", &start.Log{}, nil},
	}
	for _, r := range rows {
		want, shut := append(r.log.List(), r.want...), r.log.Closed()
		if got := air.Begin(r.log); got != len(r.want) {
			t.Errorf("Begin of %s = %d, want %d", r.of, got, len(r.want))
		}
		if got := r.log.List(); !slices.Equal(got, want) || r.log.Closed() != shut {
			t.Errorf("behind Begin %s is %v, closed %v, want %v, closed %v", r.of, got, r.log.Closed(), want, shut)
		}
	}
}

func TestBeginTwiceNotesTwice(t *testing.T) {
	l := start.New()
	if one, two := air.Begin(l), air.Begin(l); one != 3 || two != 3 {
		t.Errorf("Begin twice = %d, %d, want 3, 3", one, two)
	}
	if got, want := l.List(), []int{108, 208, 308, 108, 208, 308}; !slices.Equal(got, want) {
		t.Errorf("the log is %v, want %v", got, want)
	}
}

// Nothing but Begin notes anything, and Begin notes in no other log.
func TestNothingIsNotedElsewhere(t *testing.T) {
	other := start.New()
	air.Begin(start.New())
	air.List()
	air.Traits()
	air.Marks()
	air.Number()
	if got := other.List(); len(got) != 0 {
		t.Errorf("another log is %v, want none", got)
	}
}

// P8.3

func TestEachCardMayBe(t *testing.T) {
	for _, c := range air.List() {
		if e := card.Check(c); e != api.OK {
			t.Errorf("Check of %s = %v, want OK", c.Name, e)
		}
	}
}

// orders has each order of the numbers from 0 on, so many of them.
func orders(count int) [][]int {
	if count == 0 {
		return [][]int{{}}
	}
	var list [][]int
	for _, order := range orders(count - 1) {
		for place := range count {
			list = append(list, slices.Insert(slices.Clone(order), place, count-1))
		}
	}
	return list
}

// adders are all that the suit has for a book, one call each.
func adders() []func(*book.Book) api.Errno {
	var list []func(*book.Book) api.Errno
	for _, c := range air.List() {
		list = append(list, func(b *book.Book) api.Errno { return b.Card(c) })
	}
	for _, x := range air.Traits() {
		list = append(list, func(b *book.Book) api.Errno { return b.Trait(x, trait.Name(x)) })
	}
	for _, m := range air.Marks() {
		list = append(list, func(b *book.Book) api.Errno { return b.Mark(m) })
	}
	return list
}

// bookIn is a new book to which all was added in an order, and that was sealed.
func bookIn(t *testing.T, order []int) *book.Book {
	t.Helper()
	b, all := book.New(), adders()
	for _, i := range order {
		if e := all[i](b); e != api.OK {
			t.Fatalf("the order %v: the addition %d is refused with %v", order, i, e)
		}
	}
	if e := b.Seal(); e != api.OK || !b.Sealed() {
		t.Fatalf("the order %v: Seal = %v, sealed %v, want OK, true", order, e, b.Sealed())
	}
	return b
}

// wantNumbers holds the names by their numbers against the chapter's example.
func wantNumbers(t *testing.T, b *book.Book) {
	t.Helper()
	names := []string{"breeze", "calm", "flock", "kite", "swift-wing", "wisp"}
	if b.Len() != len(names) {
		t.Fatalf("the book has %d cards, want %d", b.Len(), len(names))
	}
	for i, name := range names {
		if n, e := b.Find(name); n != i+1 || e != api.OK {
			t.Errorf("Find(%s) = %d, %v, want %d, OK", name, n, e, i+1)
		}
		if c, e := b.At(i + 1); c.Name != name || e != api.OK {
			t.Errorf("At(%d) is %q, %v, want %q, OK", i+1, c.Name, e, name)
		}
	}
}

func TestBookInEveryOrder(t *testing.T) {
	if got := len(adders()); got != 8 {
		t.Fatalf("the suit has %d cards, traits and marks, want 8", got)
	}
	first := bookIn(t, []int{0, 1, 2, 3, 4, 5, 6, 7})
	wantNumbers(t, first)
	for _, order := range orders(8) {
		if b := bookIn(t, order); !book.Same(b, first) {
			t.Fatalf("the order %v makes another book", order)
		}
	}
}

func TestBookHoldsTheSuit(t *testing.T) {
	b := bookIn(t, []int{7, 6, 5, 4, 3, 2, 1, 0})
	wantNumbers(t, b)
	for _, want := range wantCards() {
		n, _ := b.Find(want.Name)
		if got, e := b.At(n); e != api.OK || !card.Same(got, want) {
			t.Errorf("the book has %+v, %v, want %+v", got, e, want)
		}
	}
	names := map[api.Trait]string{api.Fast: "fast", api.Swift: "swift"}
	for x := api.Fast; x <= api.Swift; x++ {
		if got, ok := b.TraitName(x); got != names[x] || ok != (names[x] != "") {
			t.Errorf("TraitName(%d) = %q, %v, want %q", x, got, ok, names[x])
		}
	}
	for m := api.Up; m <= api.Charge; m++ {
		if got, ok := b.MarkOf(m); ok || got != (api.MarkInfo{}) {
			t.Errorf("MarkOf(%d) = %+v, %v, want none", m, got, ok)
		}
	}
}

// Without wisp nobody comes whom flock calls.
func TestBookWithoutWispIsNotSealed(t *testing.T) {
	b := book.New()
	for _, c := range air.List() {
		if c.Name == "wisp" {
			continue
		}
		if e := b.Card(c); e != api.OK {
			t.Errorf("Card of %s = %v, want OK", c.Name, e)
		}
	}
	if e := b.Seal(); e != api.ErrMissing || b.Sealed() {
		t.Errorf("Seal without wisp = %v, sealed %v, want ErrMissing, false", e, b.Sealed())
	}
}
