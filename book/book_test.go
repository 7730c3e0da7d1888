package book_test

import (
	"math"
	"reflect"
	"slices"
	"strings"
	"testing"

	"gambit/api"
	"gambit/book"
	"gambit/card"
)

// rock and axe are the cards of the chapter's examples.
func rock() api.Card {
	return api.Card{Name: "rock", Suit: api.Earth, Kind: api.Unit, Cost: 1, Health: 3}
}

func axe() api.Card {
	return api.Card{Name: "axe", Suit: api.Air, Kind: api.Relic, Cost: 2, Parts: []api.Part{call("rock")}}
}

func zap() api.Card {
	return api.Card{Name: "zap", Suit: api.Fire, Kind: api.Spell, Cost: 3, Parts: []api.Part{{When: api.Played, Verb: api.Harm, Whom: api.It, Count: 3}}}
}

func call(name string) api.Part {
	return api.Part{When: api.Begun, Verb: api.Call, Whom: api.You, Count: 1, Name: name}
}

func idol(name string, s api.Suit, parts ...api.Part) api.Card {
	return api.Card{Name: name, Suit: s, Kind: api.Relic, Cost: 1, Parts: parts}
}

func spell(name string, s api.Suit, calls ...string) api.Card {
	c := api.Card{Name: name, Suit: s, Kind: api.Spell, Cost: 1}
	for _, called := range calls {
		p := call(called)
		p.When = api.Played
		c.Parts = append(c.Parts, p)
	}
	return c
}

// but gives a card with a change.
func but(c api.Card, change func(*api.Card)) api.Card {
	c = card.Copy(c)
	change(&c)
	return c
}

func up() api.MarkInfo { return api.MarkInfo{Mark: api.Up, Name: "up", Power: 1, Health: 1} }

func down() api.MarkInfo { return api.MarkInfo{Mark: api.Down, Name: "down", Power: -1, Health: -1} }

// sixtyFour has as many cards as a book takes, of all suits, none of them in its place.
func sixtyFour() []api.Card {
	var list []api.Card
	for i := range 64 {
		name := string([]byte{'z' - byte(i*7%26), '-', 'a' + byte(i/26)})
		list = append(list, idol(name, api.Suit(1+i*5%6)))
	}
	return list
}

func goodNames() []string {
	return []string{"fast", "a", "z-", "a--b", "abcdefghijklmnopqrst", "z-------------------"}
}

func badNames() []string {
	return []string{"", "-", "-a", "Fast", "fasT", "fast1", "two words", " fast", "fast ", "fast\n", "a|b", "a\x00", "\xff", "\u00e4", "abcdefghijklmnopqrstu", strings.Repeat("a", 1000)}
}

// filled is an open book with these cards.
func filled(t *testing.T, cards ...api.Card) *book.Book {
	t.Helper()
	b := book.New()
	for _, c := range cards {
		wantCard(t, b, c, api.OK)
	}
	return b
}

func sealed(t *testing.T, cards ...api.Card) *book.Book {
	t.Helper()
	b := filled(t, cards...)
	wantSeal(t, b, api.OK)
	return b
}

// what is all that a book tells.
type what struct {
	Sealed bool
	Len    int
	Cards  []api.Card
	Held   []bool // Has of each card's name
	At     map[int]api.Card
	Finds  []int
	Errs   []api.Errno
	Traits map[api.Trait]string
	Marks  map[api.Mark]api.MarkInfo
}

func tell(b *book.Book) what {
	w := what{Sealed: b.Sealed(), Len: b.Len(), Cards: slices.Collect(b.Cards()), At: map[int]api.Card{}, Traits: map[api.Trait]string{}, Marks: map[api.Mark]api.MarkInfo{}}
	for n := -1; n <= 66; n++ {
		c, err := b.At(n)
		w.At[n], w.Errs = c, append(w.Errs, err)
	}
	for _, c := range w.Cards {
		n, err := b.Find(c.Name)
		w.Held, w.Finds, w.Errs = append(w.Held, b.Has(c.Name)), append(w.Finds, n), append(w.Errs, err)
	}
	for n := range math.MaxUint8 + 1 {
		if name, ok := b.TraitName(api.Trait(n)); ok || name != "" {
			w.Traits[api.Trait(n)] = name
		}
		if m, ok := b.MarkOf(api.Mark(n)); ok || m != (api.MarkInfo{}) {
			w.Marks[api.Mark(n)] = m
		}
	}
	return w
}

// wantOf holds what a call answers against what it should, and, if that is an error, the book behind it against the one ahead of it.
func wantOf(t *testing.T, b *book.Book, call string, want api.Errno, do func() api.Errno) {
	t.Helper()
	if want == api.OK {
		if got := do(); got != api.OK {
			t.Errorf("%s = %d, want OK", call, got)
		}
		return
	}
	before := tell(b)
	if got := do(); got != want {
		t.Errorf("%s = %d, want %d", call, got, want)
	}
	if after := tell(b); !reflect.DeepEqual(after, before) {
		t.Errorf("%s was refused, and changed %+v to %+v", call, before, after)
	}
}

func wantCard(t *testing.T, b *book.Book, c api.Card, want api.Errno) {
	t.Helper()
	wantOf(t, b, "Card("+c.Name+")", want, func() api.Errno { return b.Card(c) })
}

func wantTrait(t *testing.T, b *book.Book, n api.Trait, name string, want api.Errno) {
	t.Helper()
	wantOf(t, b, "Trait("+string('0'+rune(n))+", "+name+")", want, func() api.Errno { return b.Trait(n, name) })
}

func wantMark(t *testing.T, b *book.Book, m api.MarkInfo, want api.Errno) {
	t.Helper()
	wantOf(t, b, "Mark("+string('0'+rune(m.Mark))+", "+m.Name+")", want, func() api.Errno { return b.Mark(m) })
}

func wantSeal(t *testing.T, b *book.Book, want api.Errno) {
	t.Helper()
	wantOf(t, b, "Seal", want, b.Seal)
	if got := b.Sealed(); got != (want == api.OK || want == api.ErrSealed) {
		t.Errorf("Sealed() behind Seal = %v", got)
	}
}

// wantCards holds the cards of a book, in their order, against names.
func wantCards(t *testing.T, b *book.Book, names ...string) {
	t.Helper()
	var got []string
	for c := range b.Cards() {
		got = append(got, c.Name)
	}
	if !slices.Equal(got, names) {
		t.Errorf("Cards() = %q, want %q", got, names)
	}
	if b.Len() != len(names) {
		t.Errorf("Len() = %d, want %d", b.Len(), len(names))
	}
}

// P7.1

func TestNewIsOpenAndEmpty(t *testing.T) {
	b := book.New()
	if b == nil {
		t.Fatal("New() = nil")
	}
	wantCards(t, b)
	got := tell(b)
	if got.Sealed || got.Len != 0 || len(got.Cards) != 0 || len(got.Traits) != 0 || len(got.Marks) != 0 {
		t.Errorf("New() has %+v", got)
	}
	for _, name := range append(goodNames(), badNames()...) {
		if b.Has(name) {
			t.Errorf("New() has a card %q", name)
		}
	}
	wantCard(t, b, rock(), api.OK)
	wantTrait(t, b, api.Fast, "fast", api.OK)
	wantMark(t, b, up(), api.OK)
}

func TestNewIsAnotherBookEachTime(t *testing.T) {
	first := filled(t, rock())
	wantTrait(t, first, api.Fast, "fast", api.OK)
	wantMark(t, first, up(), api.OK)
	wantSeal(t, first, api.OK)
	second := book.New()
	if got := tell(second); got.Sealed || got.Len != 0 || len(got.Traits) != 0 || len(got.Marks) != 0 {
		t.Errorf("New() behind another book has %+v", got)
	}
	wantCard(t, second, axe(), api.OK)
	wantCards(t, first, "rock")
}

// P7.2

func TestCardOfExamples(t *testing.T) {
	b := book.New()
	wantCard(t, b, axe(), api.OK)
	wantCard(t, b, rock(), api.OK)
	wantCard(t, b, rock(), api.ErrThere)
	if !b.Has("axe") || !b.Has("rock") || b.Has("x") || b.Len() != 2 {
		t.Errorf("the book has %+v", tell(b))
	}
}

// badCards are cards that may not be, with the error of card.Check.
func badCards() map[api.Errno][]api.Card {
	cards := map[api.Errno][]api.Card{
		api.ErrName: {{}, but(rock(), func(c *api.Card) { c.Name = "Rock" }), but(axe(), func(c *api.Card) { c.Parts[0].Name = "" })},
		api.ErrCard: {
			but(rock(), func(c *api.Card) { c.Suit = 0 }), but(rock(), func(c *api.Card) { c.Suit = 7 }),
			but(rock(), func(c *api.Card) { c.Kind = 0 }), but(rock(), func(c *api.Card) { c.Health = 0 }),
			but(rock(), func(c *api.Card) { c.Traits = 1 << 8 }), but(zap(), func(c *api.Card) { c.Token = true }),
			but(zap(), func(c *api.Card) { c.Parts = axe().Parts }),
		},
		api.ErrArg: {
			but(rock(), func(c *api.Card) { c.Cost = 11 }), but(rock(), func(c *api.Card) { c.Power = -1 }),
			but(rock(), func(c *api.Card) { c.Health = 100 }), but(zap(), func(c *api.Card) { c.Parts[0].Count = 0 }),
		},
		api.ErrLong:   {but(axe(), func(c *api.Card) { c.Parts = slices.Repeat(c.Parts, 5) })},
		api.ErrTarget: {but(zap(), func(c *api.Card) { c.Parts[0] = api.Part{When: api.Played, Verb: api.Break, Whom: api.Foe} })},
	}
	for _, name := range badNames() {
		cards[api.ErrName] = append(cards[api.ErrName], but(rock(), func(c *api.Card) { c.Name = name }))
	}
	return cards
}

func TestCardThatMayNotBe(t *testing.T) {
	open := filled(t, idol("other", api.Air))
	there := filled(t, rock(), zap(), axe())
	full := filled(t, sixtyFour()...)
	closed := sealed(t, rock())
	for want, cards := range badCards() {
		for _, c := range cards {
			if got := card.Check(c); got != want {
				t.Fatalf("Check(%+v) = %d, want %d: a fault of the test", c, got, want)
			}
			wantCard(t, open, c, want)
			wantCard(t, there, c, want)
			wantCard(t, full, c, want)
			wantCard(t, closed, c, api.ErrSealed)
			wantCard(t, nil, c, api.ErrNil)
		}
	}
	wantCards(t, open, "other")
}

// A name stands once in a book, whatever the cards are else.
func TestCardOfANameThatIsThere(t *testing.T) {
	b := filled(t, axe(), rock(), zap())
	for _, there := range []api.Card{axe(), rock(), zap()} {
		for s := api.Air; s <= api.Gold; s++ {
			for _, c := range []api.Card{idol(there.Name, s), spell(there.Name, s), but(rock(), func(c *api.Card) { c.Name, c.Suit = there.Name, s })} {
				wantCard(t, b, c, api.ErrThere)
			}
		}
	}
	for _, name := range []string{"roc", "rock-", "rocks", "ax", "xe", "a", "zapp"} {
		wantCard(t, b, idol(name, api.Earth), api.OK)
	}
	// A name that a refused card had is free.
	wantCard(t, b, but(idol("late", api.Air), func(c *api.Card) { c.Cost = 11 }), api.ErrArg)
	wantCard(t, b, idol("late", api.Air), api.OK)
}

func TestCardOfEachCount(t *testing.T) {
	if api.MaxCards != 64 {
		t.Fatalf("MaxCards = %d, want 64", api.MaxCards)
	}
	b := book.New()
	for i, c := range sixtyFour() {
		wantCard(t, b, c, api.OK)
		if b.Len() != i+1 || !b.Has(c.Name) {
			t.Errorf("behind %d cards Len() = %d, Has(%s) = %v", i+1, b.Len(), c.Name, b.Has(c.Name))
		}
	}
	for s := api.Air; s <= api.Gold; s++ {
		for _, name := range []string{"a", "n", "zz"} {
			wantCard(t, b, idol(name, s), api.ErrFull)
		}
	}
	for _, c := range sixtyFour() {
		wantCard(t, b, c, api.ErrThere)
	}
	wantTrait(t, b, api.Fast, "fast", api.OK)
	wantMark(t, b, up(), api.OK)
	wantSeal(t, b, api.OK)
	wantCard(t, b, idol("zz", api.Air), api.ErrSealed)
}

func TestCardOfASealedBook(t *testing.T) {
	for _, b := range []*book.Book{sealed(t), sealed(t, axe(), rock()), sealed(t, sixtyFour()...)} {
		for _, c := range []api.Card{rock(), axe(), zap(), {}} {
			wantCard(t, b, c, api.ErrSealed)
		}
	}
}

// P7.3

func TestTraitOfExamples(t *testing.T) {
	b := book.New()
	wantTrait(t, b, api.Fast, "fast", api.OK)
	wantTrait(t, b, api.Fast, "quick", api.ErrThere)
	wantTrait(t, b, api.Guard, "fast", api.ErrThere)
	wantTrait(t, b, 9, "x", api.ErrArg)
	wantTrait(t, b, api.Guard, "G", api.ErrName)
	if got := tell(b).Traits; !reflect.DeepEqual(got, map[api.Trait]string{api.Fast: "fast"}) {
		t.Errorf("the traits' names are %v", got)
	}
}

func TestTraitOfEveryNumber(t *testing.T) {
	whole := book.New()
	want := map[api.Trait]string{}
	for n := range math.MaxUint8 + 1 {
		number, name := api.Trait(n), "t"+strings.Repeat("-", n%8)
		one := book.New()
		if n < 1 || n > 8 {
			wantTrait(t, one, number, name, api.ErrArg)
			wantTrait(t, one, number, "", api.ErrArg)
			wantTrait(t, whole, number, "fresh", api.ErrArg)
			wantTrait(t, whole, number, "t-", api.ErrArg) // a name that is there: the number comes first
			continue
		}
		want[number] = name
		wantTrait(t, one, number, name, api.OK)
		wantTrait(t, whole, number, name, api.OK)
		if got := tell(one).Traits; !reflect.DeepEqual(got, map[api.Trait]string{number: name}) {
			t.Errorf("behind Trait(%d, %s) the names are %v", n, name, got)
		}
	}
	if got := tell(whole).Traits; !reflect.DeepEqual(got, want) {
		t.Errorf("the names are %v, want %v", got, want)
	}
}

func TestTraitOfNames(t *testing.T) {
	for n := api.Fast; n <= api.Swift; n++ {
		for _, name := range goodNames() {
			b := book.New()
			wantTrait(t, b, n, name, api.OK)
			if got, ok := b.TraitName(n); got != name || !ok {
				t.Errorf("TraitName(%d) = %q, %v, want %q", n, got, ok, name)
			}
		}
		b := book.New()
		for _, name := range badNames() {
			wantTrait(t, b, n, name, api.ErrName)
		}
		wantTrait(t, b, n, "fast", api.OK)
		for _, name := range badNames() {
			wantTrait(t, b, n, name, api.ErrName) // it has a name already: that comes later
		}
	}
}

func TestTraitThatIsThere(t *testing.T) {
	for first := api.Fast; first <= api.Swift; first++ {
		b := book.New()
		wantTrait(t, b, first, "one", api.OK)
		for second := api.Fast; second <= api.Swift; second++ {
			wantTrait(t, b, second, "one", api.ErrThere)
		}
		wantTrait(t, b, first, "two", api.ErrThere)
		for second := api.Fast; second <= api.Swift; second++ {
			if second != first {
				wantTrait(t, b, second, strings.Repeat("o", int(second)), api.OK)
				wantTrait(t, b, second, "one", api.ErrThere)
				wantTrait(t, b, second, strings.Repeat("o", int(second)), api.ErrThere)
			}
		}
	}
}

func TestMarkOfExamples(t *testing.T) {
	b := book.New()
	wantMark(t, b, up(), api.OK)
	wantMark(t, b, api.MarkInfo{Mark: api.Up, Name: "more", Power: 1, Health: 1}, api.ErrThere)
	wantMark(t, b, api.MarkInfo{Mark: api.Down, Name: "down", Power: -10}, api.ErrArg)
	if got := tell(b).Marks; !reflect.DeepEqual(got, map[api.Mark]api.MarkInfo{api.Up: up()}) {
		t.Errorf("the marks are %v", got)
	}
}

func TestMarkOfEveryNumber(t *testing.T) {
	whole := book.New()
	want := map[api.Mark]api.MarkInfo{}
	for n := range math.MaxUint8 + 1 {
		m := api.MarkInfo{Mark: api.Mark(n), Name: "m" + strings.Repeat("-", n%4), Power: n%10 - 4, Health: 4 - n%10}
		one := book.New()
		if n < 1 || n > 4 {
			wantMark(t, one, m, api.ErrArg)
			wantMark(t, one, api.MarkInfo{Mark: m.Mark}, api.ErrArg)
			wantMark(t, whole, m, api.ErrArg)
			wantMark(t, whole, api.MarkInfo{Mark: m.Mark, Name: "fresh"}, api.ErrArg)
			continue
		}
		want[m.Mark] = m
		wantMark(t, one, m, api.OK)
		wantMark(t, whole, m, api.OK)
		if got := tell(one).Marks; !reflect.DeepEqual(got, map[api.Mark]api.MarkInfo{m.Mark: m}) {
			t.Errorf("behind Mark(%+v) the marks are %v", m, got)
		}
	}
	if got := tell(whole).Marks; !reflect.DeepEqual(got, want) {
		t.Errorf("the marks are %v, want %v", got, want)
	}
}

func TestMarkOfPowerAndHealth(t *testing.T) {
	forces := []int{math.MinInt, math.MinInt32, -265, -256, -100, 100, 256, 265, math.MaxInt32, math.MaxInt}
	for n := -12; n <= 12; n++ {
		forces = append(forces, n)
	}
	for _, power := range forces {
		for _, health := range forces {
			m := api.MarkInfo{Mark: api.Shield, Name: "shield", Power: power, Health: health}
			b := book.New()
			if power < -9 || power > 9 || health < -9 || health > 9 {
				wantMark(t, b, m, api.ErrArg)
				wantMark(t, b, api.MarkInfo{Mark: api.Shield, Name: "Shield", Power: power, Health: health}, api.ErrArg)
				continue
			}
			wantMark(t, b, m, api.OK)
			if got, ok := b.MarkOf(api.Shield); got != m || !ok {
				t.Errorf("MarkOf = %+v, %v, want %+v", got, ok, m)
			}
		}
	}
}

func TestMarkOfNames(t *testing.T) {
	for n := api.Up; n <= api.Charge; n++ {
		for _, name := range goodNames() {
			m := api.MarkInfo{Mark: n, Name: name}
			b := book.New()
			wantMark(t, b, m, api.OK)
			if got, ok := b.MarkOf(n); got != m || !ok {
				t.Errorf("MarkOf(%d) = %+v, %v, want %+v", n, got, ok, m)
			}
		}
		b := book.New()
		for _, name := range badNames() {
			wantMark(t, b, api.MarkInfo{Mark: n, Name: name, Power: 1}, api.ErrName)
		}
		wantMark(t, b, api.MarkInfo{Mark: n, Name: "mark"}, api.OK)
		for _, name := range badNames() {
			wantMark(t, b, api.MarkInfo{Mark: n, Name: name}, api.ErrName)
		}
		wantMark(t, b, api.MarkInfo{Mark: n, Name: "mark", Power: 10}, api.ErrArg)
		wantMark(t, b, api.MarkInfo{Mark: n, Name: "mark", Health: -10}, api.ErrArg)
	}
}

func TestMarkThatIsThere(t *testing.T) {
	for first := api.Up; first <= api.Charge; first++ {
		b := book.New()
		wantMark(t, b, api.MarkInfo{Mark: first, Name: "one", Power: 2}, api.OK)
		for second := api.Up; second <= api.Charge; second++ {
			wantMark(t, b, api.MarkInfo{Mark: second, Name: "one", Health: 3}, api.ErrThere)
		}
		wantMark(t, b, api.MarkInfo{Mark: first, Name: "one", Power: 2}, api.ErrThere)
		wantMark(t, b, api.MarkInfo{Mark: first, Name: "two"}, api.ErrThere)
		for second := api.Up; second <= api.Charge; second++ {
			if second != first {
				m := api.MarkInfo{Mark: second, Name: strings.Repeat("o", int(second))}
				wantMark(t, b, m, api.OK)
				wantMark(t, b, m, api.ErrThere)
			}
		}
	}
}

// Cards, traits and marks have names each among their own kind.
func TestOneNameOfACardATraitAndAMark(t *testing.T) {
	b := book.New()
	wantTrait(t, b, api.Lone, "rock", api.OK)
	wantMark(t, b, api.MarkInfo{Mark: api.Charge, Name: "rock"}, api.OK)
	if b.Has("rock") {
		t.Error("a trait's or a mark's name counts as a card's")
	}
	wantCard(t, b, rock(), api.OK)
	wantMark(t, b, api.MarkInfo{Mark: api.Up, Name: "axe"}, api.OK)
	wantCard(t, b, axe(), api.OK)
	wantTrait(t, b, api.Fast, "axe", api.OK)
}

func TestTraitAndMarkOfASealedBook(t *testing.T) {
	b := book.New()
	wantTrait(t, b, api.Fast, "fast", api.OK)
	wantMark(t, b, up(), api.OK)
	wantSeal(t, b, api.OK)
	for n := range api.Trait(12) {
		for _, name := range []string{"fast", "fresh", "", "Bad"} {
			wantTrait(t, b, n, name, api.ErrSealed)
			wantMark(t, b, api.MarkInfo{Mark: api.Mark(n), Name: name, Power: 8 * int(n)}, api.ErrSealed)
		}
	}
}

// P7.4

func TestSealOfExamples(t *testing.T) {
	b := sealed(t, axe(), rock())
	wantCard(t, b, rock(), api.ErrSealed)
	wantSeal(t, b, api.ErrSealed)
	wantTrait(t, b, api.Fast, "fast", api.ErrSealed)
	wantMark(t, b, up(), api.ErrSealed)
	wantSeal(t, filled(t, axe()), api.ErrMissing)
}

func TestSealOfAnEmptyBook(t *testing.T) {
	b := book.New()
	wantSeal(t, b, api.OK)
	wantCards(t, b)
	wantSeal(t, b, api.ErrSealed)
}

// callers has for each kind and each When that it may have a card with a part that Calls, at each place among four.
func callers(name string) []api.Card {
	var list []api.Card
	for _, w := range []api.When{api.Played, api.Broken, api.Begun, api.Struck} {
		for _, c := range []api.Card{idol("caller", api.Water), spell("caller", api.Water), but(rock(), func(c *api.Card) { c.Name, c.Suit = "caller", api.Water })} {
			for place := range 4 {
				c.Parts = slices.Repeat([]api.Part{{When: w, Verb: api.Mend, Whom: api.You, Count: 2}}, 4)
				c.Parts[place] = api.Part{When: w, Verb: api.Call, Whom: api.Theirs, Count: 99, Name: name}
				if card.Check(c) == api.OK {
					list = append(list, card.Copy(c))
				}
			}
		}
	}
	return list
}

func TestSealOfCalls(t *testing.T) {
	called := map[api.Errno][]api.Card{
		api.OK:      {idol("called", api.Gold), idol("called", api.Air), but(rock(), func(c *api.Card) { c.Name = "called" }), but(rock(), func(c *api.Card) { c.Name, c.Token = "called", true }), but(idol("called", api.Water), func(c *api.Card) { c.Token = true })},
		api.ErrCard: {spell("called", api.Gold), spell("called", api.Air), but(zap(), func(c *api.Card) { c.Name = "called" })},
		api.ErrMissing: {
			idol("calle", api.Air), idol("called-", api.Gold), spell("call", api.Water), rock(),
		},
	}
	list := callers("called")
	if len(list) != 32 {
		t.Fatalf("there are %d callers, want 32: four of a spell, twelve of a relic, sixteen of a unit", len(list))
	}
	for want, others := range called {
		for _, other := range others {
			for _, caller := range list {
				wantSeal(t, filled(t, caller, other), want)
				wantSeal(t, filled(t, other, caller), want)
			}
		}
	}
	for _, caller := range list {
		wantSeal(t, filled(t, caller), api.ErrMissing)
	}
}

func TestSealOfCardsThatCallThemselves(t *testing.T) {
	for _, c := range callers("caller") {
		want := api.OK
		if c.Kind == api.Spell {
			want = api.ErrCard
		}
		wantSeal(t, filled(t, c), want)
	}
	wantSeal(t, filled(t, idol("one", api.Air, call("two")), idol("two", api.Air, call("one"), call("two"))), api.OK)
}

// A trait's or a mark's name is no card's.
func TestSealOfACallOfWhatIsNoCard(t *testing.T) {
	b := filled(t, axe())
	wantTrait(t, b, api.Fast, "rock", api.OK)
	wantMark(t, b, api.MarkInfo{Mark: api.Up, Name: "rock"}, api.OK)
	wantSeal(t, b, api.ErrMissing)
}

func TestSealOfSeveralErrors(t *testing.T) {
	missing, ofSpell, good := call("nobody"), call("bolt"), call("caller")
	bolt, caller := spell("bolt", api.Fire), idol("caller", api.Earth, call("caller"))
	cases := []struct {
		cards []api.Card
		want  api.Errno
	}{
		{[]api.Card{idol("one", api.Air, missing), idol("two", api.Gold, ofSpell)}, api.ErrMissing},
		{[]api.Card{idol("one", api.Gold, missing), idol("two", api.Air, ofSpell)}, api.ErrCard},
		{[]api.Card{idol("one", api.Water, missing), idol("two", api.Water, ofSpell)}, api.ErrMissing},
		{[]api.Card{idol("two", api.Water, missing), idol("one", api.Water, ofSpell)}, api.ErrCard},
		{[]api.Card{idol("ab", api.Void, missing), idol("a", api.Void, ofSpell)}, api.ErrCard},
		{[]api.Card{idol("a-", api.Void, missing), idol("aa", api.Void, ofSpell)}, api.ErrMissing},
		{[]api.Card{idol("one", api.Air, good, missing, ofSpell)}, api.ErrMissing},
		{[]api.Card{idol("one", api.Air, good, ofSpell, missing)}, api.ErrCard},
		{[]api.Card{idol("one", api.Air, good, good, good, ofSpell), idol("two", api.Earth, missing)}, api.ErrCard},
		{[]api.Card{idol("one", api.Air, good, good, good, missing), idol("two", api.Earth, ofSpell)}, api.ErrMissing},
		{[]api.Card{idol("one", api.Air, good), idol("two", api.Earth, missing, ofSpell), idol("three", api.Gold, ofSpell)}, api.ErrMissing},
	}
	for i, c := range cases {
		all := append([]api.Card{bolt, caller}, c.cards...)
		for _, order := range orders(len(all)) {
			b := book.New()
			for _, place := range order {
				wantCard(t, b, all[place], api.OK)
			}
			if got := b.Seal(); got != c.want || b.Sealed() {
				t.Fatalf("case %d, added in the order %v: Seal() = %d, Sealed() = %v, want %d", i, order, got, b.Sealed(), c.want)
			}
		}
	}
}

func TestSealThatWasRefusedLeavesTheBookOpen(t *testing.T) {
	b := filled(t, axe(), idol("idol", api.Gold, call("zap")))
	wantSeal(t, b, api.ErrMissing)
	wantCard(t, b, axe(), api.ErrThere)
	wantCard(t, b, rock(), api.OK)
	wantSeal(t, b, api.ErrMissing)
	wantTrait(t, b, api.Fast, "fast", api.OK)
	wantMark(t, b, up(), api.OK)
	wantCard(t, b, but(rock(), func(c *api.Card) { c.Name = "zap" }), api.OK)
	wantSeal(t, b, api.OK)
	wantSeal(t, b, api.ErrSealed)
	wantCards(t, b, "axe", "rock", "zap", "idol")
}

// Nobody can be taken out of a book, so that a Call of a Spell is never mended.
func TestSealOfACallOfASpellStaysRefused(t *testing.T) {
	b := filled(t, axe(), spell("rock", api.Gold))
	for range 3 {
		wantSeal(t, b, api.ErrCard)
		wantCard(t, b, rock(), api.ErrThere)
	}
	wantCard(t, b, zap(), api.OK)
	wantSeal(t, b, api.ErrCard)
}
