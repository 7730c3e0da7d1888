package whole_test

import (
	"maps"
	"slices"
	"sync"
	"testing"

	"gambit/air"
	"gambit/api"
	"gambit/book"
	"gambit/card"
	"gambit/earth"
	"gambit/fire"
	"gambit/gold"
	"gambit/start"
	"gambit/void"
	"gambit/water"
	"gambit/whole"
)

// wantTexts are the cards of the chapters 8 to 13 as texts: a card's number is its place and one.
func wantTexts() []string {
	return []string{
		"breeze air spell 2 | played back it | played draw you 1",
		"calm air relic 3 | rather less you 1 | begun mend you 1",
		"flock air unit 4 1/4 | played call you 2 wisp | always raise dyed 1 air",
		"kite air unit 2 2/1 +fast | struck draw you 1",
		"swift-wing air unit 3 2/3 +swift | always grant rest fast",
		"wisp air unit 0 1/1 token +fast",
		"boulder earth unit 2 1/4 +guard | played put self 1 3 | begun gain you 1",
		"clay-man earth unit 3 2/3 | broken call you 1 pebble | begun mend self 1",
		"golem earth unit 5 4/5 | struck mend you 2 | rather instead self 1 | played call foe 1 ember",
		"landslide earth spell 4 | played harm all 2 | played break with guard",
		"pebble earth unit 0 1/1 token",
		"rampart earth relic 3 | always raise dyed 1 earth | always grant rest guard | rather less yours 1",
		"ember fire unit 0 1/1 token +fast",
		"fire-bolt fire spell 2 | played harm it 3",
		"forge fire relic 4 | begun call you 1 ember | rather twice foe",
		"phoenix fire unit 5 4/2 +fast | broken call you 1 ember | always base with 1 guard",
		"salamander fire unit 3 3/3 +venom | struck put self 1 4",
		"wild-fire fire spell 6 | played harm all 2 | played break with guard",
		"dew water unit 1 1/2 +lone | broken draw you 1",
		"drop water unit 0 1/1 token +drain",
		"mirror water unit 4 2/4 | rather turned self | played call foe 1 wisp",
		"siren water unit 5 1/3 | always seize dyed fire | always strip theirs guard | begun harm foe 1",
		"spring water relic 2 | rather instead you 1 | begun mend yours 1",
		"tide water spell 4 | played back theirs | played drop foe 1",
		"echo void unit 3 2/2 | played call you 2 wisp | begun draw you 1 | broken call foe 1 shade | always dye rest void",
		"hollow void relic 3 | rather twice foe | rather turned you | always base with 2 drain",
		"hush void spell 2 | played put it 2 2 | played harm it 1",
		"nullifier void unit 4 2/4 | always grant dyed fire mute | always strip theirs swift",
		"shade void unit 0 1/1 token +lone",
		"thief void unit 6 2/2 +lone | always seize with guard | broken harm all 1",
		"coin gold unit 0 1/1 token +fixed",
		"idol gold relic 3 | always dye yours gold | begun put dyed 1 gold 1",
		"midas gold unit 7 4/4 | always dye all gold | struck gain you 1",
		"statue gold unit 2 0/6 +guard +fixed | played put self 1 3 | rather instead self 1",
		"tax-man gold unit 3 2/3 | played drop foe 1 | begun gain you 1",
		"treasure gold spell 1 | played gain you 2 | played call you 1 coin",
	}
}

func wantTraits() map[api.Trait]string {
	return map[api.Trait]string{
		1: "fast", 2: "guard", 3: "venom", 4: "lone", 5: "drain", 6: "mute", 7: "fixed", 8: "swift",
	}
}

func wantMarks() map[api.Mark]api.MarkInfo {
	return map[api.Mark]api.MarkInfo{
		1: {Mark: 1, Name: "up", Power: 1, Health: 1},
		2: {Mark: 2, Name: "down", Power: -1, Health: -1},
		3: {Mark: 3, Name: "shield"},
		4: {Mark: 4, Name: "charge"},
	}
}

func wantNumbers() map[string]int {
	return map[string]int{"air": 27, "earth": 31, "fire": 68, "water": 51, "void": 147, "gold": 215}
}

func wantTokens() []string { return []string{"wisp", "pebble", "ember", "drop", "shade", "coin"} }

// textsOf are the cards that a book goes over.
func textsOf(t *testing.T, b *book.Book) []string {
	t.Helper()
	var texts []string
	for c := range b.Cards() {
		text, e := card.Print(c)
		if e != api.OK {
			t.Errorf("%s: Print refuses it with %v", c.Name, e)
		}
		texts = append(texts, text)
	}
	return texts
}

// wantBook holds all that a book tells against the chapters.
func wantBook(t *testing.T, of string, b *book.Book) {
	t.Helper()
	texts := wantTexts()
	if !b.Sealed() || b.Len() != 36 || !slices.Equal(textsOf(t, b), texts) {
		t.Fatalf("%s: sealed %v, %d cards: %q", of, b.Sealed(), b.Len(), textsOf(t, b))
	}
	for i, text := range texts {
		want, _ := card.Parse(text)
		if c, e := b.At(i + 1); e != api.OK || !card.Same(c, want) {
			t.Errorf("%s: At(%d) = %+v, %v, want %+v, OK", of, i+1, c, e, want)
		}
		if n, e := b.Find(want.Name); n != i+1 || e != api.OK || !b.Has(want.Name) {
			t.Errorf("%s: Find(%s) = %d, %v, Has %v, want %d, OK, true", of, want.Name, n, e, b.Has(want.Name), i+1)
		}
	}
	for x := range api.Trait(12) {
		want, has := wantTraits()[x]
		if got, ok := b.TraitName(x); got != want || ok != has {
			t.Errorf("%s: TraitName(%d) = %q, %v, want %q, %v", of, x, got, ok, want, has)
		}
	}
	for m := range api.Mark(8) {
		want, has := wantMarks()[m]
		if got, ok := b.MarkOf(m); got != want || ok != has {
			t.Errorf("%s: MarkOf(%d) = %+v, %v, want %+v, %v", of, m, got, ok, want, has)
		}
	}
	wantNoMore(t, of, b)
}

// wantNoMore holds against a book that it has no card beside its own.
func wantNoMore(t *testing.T, of string, b *book.Book) {
	t.Helper()
	for _, n := range []int{-1, 0, 37} {
		if _, e := b.At(n); e != api.ErrMissing {
			t.Errorf("%s: At(%d) is refused with %v, want ErrMissing", of, n, e)
		}
	}
	for _, name := range []string{"", "axe", "Wisp", "air"} {
		if _, e := b.Find(name); e != api.ErrMissing || b.Has(name) {
			t.Errorf("%s: Find(%q) is refused with %v, Has %v, want ErrMissing, false", of, name, e, b.Has(name))
		}
	}
}

// wantRefusal adds what is new and what is there to a sealed book, and holds against it that all is refused.
func wantRefusal(t *testing.T, of string, b *book.Book) {
	t.Helper()
	old, _ := b.At(1)
	cards := []api.Card{
		{Name: "axe", Suit: api.Air, Kind: api.Relic, Cost: 2},
		{Name: "aa", Suit: api.Air, Kind: api.Unit, Health: 1},
		old,
		{},
	}
	for _, c := range cards {
		if e := b.Card(c); e != api.ErrSealed {
			t.Errorf("%s: Card(%q) = %v, want ErrSealed", of, c.Name, e)
		}
	}
	for _, x := range []api.Trait{0, api.Fast, api.Swift, 9} {
		if e := b.Trait(x, "new"); e != api.ErrSealed {
			t.Errorf("%s: Trait(%d) = %v, want ErrSealed", of, x, e)
		}
	}
	for _, m := range []api.Mark{0, api.Up, api.Charge, 5} {
		if e := b.Mark(api.MarkInfo{Mark: m, Name: "new", Power: 1}); e != api.ErrSealed {
			t.Errorf("%s: Mark(%d) = %v, want ErrSealed", of, m, e)
		}
	}
	if e := b.Seal(); e != api.ErrSealed {
		t.Errorf("%s: Seal = %v, want ErrSealed", of, e)
	}
}

// P14.1, Book

func TestBook(t *testing.T) {
	wantBook(t, "Book", whole.Book())
}

// What the book has is what the six packages tell.
func TestBookIsOfTheSix(t *testing.T) {
	b := whole.Book()
	all := slices.Concat(air.List(), earth.List(), fire.List(), water.List(), void.List(), gold.List())
	if len(all) != b.Len() {
		t.Fatalf("the six have %d cards, the book %d", len(all), b.Len())
	}
	for _, want := range all {
		n, _ := b.Find(want.Name)
		if got, e := b.At(n); e != api.OK || !card.Same(got, want) {
			t.Errorf("the book has %+v, %v, want %+v", got, e, want)
		}
	}
	marks := slices.Concat(air.Marks(), earth.Marks(), fire.Marks(), water.Marks(), void.Marks(), gold.Marks())
	if len(marks) != 4 {
		t.Errorf("the six have %d marks, want 4", len(marks))
	}
	for _, want := range marks {
		if got, ok := b.MarkOf(want.Mark); !ok || got != want {
			t.Errorf("the book has the mark %+v, %v, want %+v", got, ok, want)
		}
	}
}

func TestBookIsAnotherEachTime(t *testing.T) {
	a, b := whole.Book(), whole.Book()
	if a == b || !book.Same(a, b) {
		t.Fatalf("two books are one: %v; are the same: %v; want false, true", a == b, book.Same(a, b))
	}
	wantRefusal(t, "the first", a)
	wantBook(t, "the first", a)
	wantBook(t, "the second", b)
	wantBook(t, "a third", whole.Book())
}

// Who writes over a card that a book told has changed no book.
func TestBookKeepsItsOwn(t *testing.T) {
	a, b := whole.Book(), whole.Book()
	for c := range a.Cards() {
		parts := c.Parts[:cap(c.Parts)]
		for i := range parts {
			parts[i] = api.Part{When: 99, Verb: 99, Name: "spoilt"}
		}
	}
	wantBook(t, "the one that told", a)
	wantBook(t, "the other one", b)
	wantBook(t, "a third", whole.Book())
}

// P14.2

func TestNumbers(t *testing.T) {
	if got := whole.Numbers(); !maps.Equal(got, wantNumbers()) {
		t.Errorf("Numbers() = %v, want %v", got, wantNumbers())
	}
	want := map[string]int{
		"air": air.Number(), "earth": earth.Number(), "fire": fire.Number(),
		"water": water.Number(), "void": void.Number(), "gold": gold.Number(),
	}
	if got := whole.Numbers(); !maps.Equal(got, want) {
		t.Errorf("Numbers() = %v, want the packages' own, %v", got, want)
	}
}

func TestNumbersIsANewMap(t *testing.T) {
	before, spoilt := whole.Numbers(), whole.Numbers()
	for name := range wantNumbers() {
		spoilt[name] = -1
	}
	delete(spoilt, "air")
	spoilt["more"] = 7
	if !maps.Equal(before, wantNumbers()) || !maps.Equal(whole.Numbers(), wantNumbers()) {
		t.Errorf("numbers changed with another map: %v, %v", before, whole.Numbers())
	}
	clear(spoilt)
	if got := whole.Numbers(); !maps.Equal(got, wantNumbers()) {
		t.Errorf("Numbers behind a change = %v", got)
	}
}

func TestTokens(t *testing.T) {
	if got := whole.Tokens(); !slices.Equal(got, wantTokens()) {
		t.Errorf("Tokens() = %q, want %q", got, wantTokens())
	}
	var want []string
	for c := range whole.Book().Cards() {
		if c.Token {
			want = append(want, c.Name)
		}
	}
	if got := whole.Tokens(); !slices.Equal(got, want) {
		t.Errorf("Tokens() = %q, want those of the book, %q", got, want)
	}
}

func TestTokensAreNewMemory(t *testing.T) {
	before, spoilt := whole.Tokens(), whole.Tokens()
	room := spoilt[:cap(spoilt)]
	for i := range room {
		room[i] = "spoilt"
	}
	_ = append(spoilt, "more")
	if !slices.Equal(before, wantTokens()) || !slices.Equal(whole.Tokens(), wantTokens()) {
		t.Errorf("tokens changed with other ones: %q, %q", before, whole.Tokens())
	}
}

// P2: all is the same for whoever asks at once.
func TestTheSameForManyGoroutines(t *testing.T) {
	const askers = 16
	var books, again [askers]*book.Book
	var numbers [askers]map[string]int
	var tokens [askers][]string
	var logs, begun [askers][]int
	var all sync.WaitGroup
	for i := range askers {
		all.Go(func() {
			clear(whole.Log())
			clear(whole.Tokens())
			clear(whole.Numbers())
			whole.Book().Seal()
			l := start.New()
			whole.Begin(l)
			books[i], numbers[i], tokens[i] = whole.Book(), whole.Numbers(), whole.Tokens()
			again[i], _ = whole.Again([]int{3, 1, 5, 0, 2, 4})
			logs[i], begun[i] = whole.Log(), l.List()
		})
	}
	all.Wait()
	for i := range askers {
		wantBook(t, "Book of a goroutine", books[i])
		wantBook(t, "Again of a goroutine", again[i])
		if !maps.Equal(numbers[i], wantNumbers()) || !slices.Equal(tokens[i], wantTokens()) {
			t.Errorf("goroutine %d was told %v, %q", i, numbers[i], tokens[i])
		}
		if !slices.Equal(logs[i], wantLog()) || !slices.Equal(begun[i], wantLog()) {
			t.Errorf("goroutine %d: the logs are %v, %v", i, logs[i], begun[i])
		}
	}
}
