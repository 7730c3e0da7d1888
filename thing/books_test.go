package thing_test

import (
	"math"
	"slices"
	"testing"

	"gambit/api"
	"gambit/book"
)

// open is an open book with these cards.
func open(t testing.TB, cards ...api.Card) *book.Book {
	t.Helper()
	b := book.New()
	for _, c := range cards {
		if refused := b.Card(c); refused != api.OK {
			t.Fatalf("Card(%+v) = %d", c, refused)
		}
	}
	return b
}

func seal(t testing.TB, b *book.Book) *book.Book {
	t.Helper()
	if refused := b.Seal(); refused != api.OK {
		t.Fatalf("Seal() = %d", refused)
	}
	return b
}

func sealed(t testing.TB, cards ...api.Card) *book.Book {
	t.Helper()
	return seal(t, open(t, cards...))
}

// mark adds marks to a book.
func mark(t testing.TB, b *book.Book, marks ...api.MarkInfo) *book.Book {
	t.Helper()
	for _, m := range marks {
		if refused := b.Mark(m); refused != api.OK {
			t.Fatalf("Mark(%+v) = %d", m, refused)
		}
	}
	return b
}

// pair has the cards of the chapter's examples: fog 1, rock 2.
func pair() []api.Card {
	return []api.Card{
		{Name: "fog", Suit: api.Air, Kind: api.Spell},
		{Name: "rock", Suit: api.Earth, Kind: api.Unit, Cost: 1, Power: 2, Health: 3, Traits: 2},
	}
}

// example is the book of the chapter's examples.
func example(t testing.TB) *book.Book {
	t.Helper()
	b := mark(t, open(t, pair()...),
		api.MarkInfo{Mark: api.Up, Name: "up", Power: 1, Health: 1},
		api.MarkInfo{Mark: api.Down, Name: "down", Power: -1, Health: -1})
	return seal(t, b)
}

// part is a part with a When that a card may have.
func part(w api.When) api.Part {
	switch w {
	case api.Always:
		return api.Part{When: w, Verb: api.Raise, Whom: api.All, Count: -2}
	case api.Rather:
		return api.Part{When: w, Verb: api.Less, Whom: api.Self, Count: 3}
	}
	return api.Part{When: w, Verb: api.Draw, Whom: api.You, Count: 1}
}

func parts(whens ...api.When) []api.Part {
	var list []api.Part
	for _, w := range whens {
		list = append(list, part(w))
	}
	return list
}

// zoo has cards of each kind and suit, with and without parts, each card at its number less one.
func zoo() []api.Card {
	call := api.Part{When: api.Broken, Verb: api.Call, Whom: api.You, Count: 2, Name: "spark"}
	return []api.Card{
		{Name: "gale", Suit: api.Air, Kind: api.Spell, Cost: 10, Traits: 1},
		{Name: "gust", Suit: api.Air, Kind: api.Spell, Cost: 3, Parts: parts(api.Played, api.Played, api.Played, api.Played)},
		{Name: "golem", Suit: api.Earth, Kind: api.Unit, Cost: 5, Power: 4, Health: 5, Traits: 2, Parts: parts(api.Struck, api.Always, api.Struck, api.Always)},
		{Name: "wall", Suit: api.Earth, Kind: api.Unit, Health: 9, Traits: 66},
		{Name: "altar", Suit: api.Fire, Kind: api.Relic, Cost: 2, Traits: 32, Parts: append(parts(api.Begun, api.Rather, api.Always), call)},
		{Name: "spark", Suit: api.Fire, Kind: api.Unit, Power: 1, Health: 1, Traits: 4, Token: true, Parts: parts(api.Played, api.Broken, api.Begun, api.Struck)},
		{Name: "well", Suit: api.Water, Kind: api.Relic, Cost: 1},
		{Name: "hush", Suit: api.Void, Kind: api.Unit, Cost: 4, Power: 3, Health: 2, Parts: parts(api.Rather, api.Rather, api.Always, api.Rather)},
		{Name: "seal", Suit: api.Void, Kind: api.Relic, Token: true, Traits: 8},
		{Name: "hoard", Suit: api.Gold, Kind: api.Unit, Cost: 10, Power: 99, Health: 99, Traits: 255, Parts: parts(api.Begun, api.Played, api.Begun)},
	}
}

// many has so many cards without parts, no two with the same Health.
func many(count int) []api.Card {
	var list []api.Card
	for i := range count {
		list = append(list, api.Card{Name: string([]byte{'a' + byte(i/26), 'a' + byte(i%26)}), Suit: api.Earth, Kind: api.Unit, Health: i + 1})
	}
	return list
}

// none has what is no book.
func none() map[string]*book.Book {
	return map[string]*book.Book{"nil": nil, "a literal": {}, "new": new(book.Book)}
}

// opens has open books: without cards, with some, with as many as there may be, with marks.
func opens(t testing.TB) []*book.Book {
	return []*book.Book{book.New(), open(t, pair()...), open(t, zoo()...), open(t, many(api.MaxCards)...), mark(t, open(t, zoo()...), fourMarks()...)}
}

// noNumbers are numbers that no card of a book with so many cards has.
func noNumbers(last int) []int {
	return []int{0, -1, -2, -64, math.MinInt, math.MinInt + 1, last + 1, last + 2, 65, 66, 1 << 8, 1<<8 + 1, 1<<16 + 1, 1<<32 + 1, -1<<32 + 1, math.MaxInt - 1, math.MaxInt}
}

// noOwners are numbers that are no player's.
func noOwners() []int {
	return []int{-1, -2, 2, 3, 1 << 8, 1<<8 + 1, 1 << 32, 1<<32 + 1, -1 << 32, math.MinInt, math.MinInt + 1, math.MaxInt}
}

// others gives a thing with whatever a thing may say beside its Card and its Owner, one field at a time and all at once, sound or not.
func others(t api.Thing) []api.Thing {
	list := []api.Thing{t}
	change := func(by func(*api.Thing)) {
		x := t
		by(&x)
		list = append(list, x)
	}
	for place := range 256 {
		change(func(x *api.Thing) { x.Place = api.Place(place) })
	}
	for _, n := range []int{1, 2, 99, 100, -1, 1 << 40, math.MinInt, math.MaxInt} {
		change(func(x *api.Thing) { x.Stamp = n })
		change(func(x *api.Thing) { x.Hurt = n })
		change(func(x *api.Thing) { x.Done = n })
		for i := range t.Marks {
			change(func(x *api.Thing) { x.Marks[i] = n })
		}
		change(func(x *api.Thing) {
			*x = api.Thing{Card: x.Card, Owner: x.Owner, Place: api.Table, Stamp: n, Hurt: n, Marks: [4]int{n, n, n, n}, Done: n, Fresh: true}
		})
	}
	change(func(x *api.Thing) { x.Fresh = true })
	return list
}

// The lists above say what they are meant to say.
func TestBooksOfTheTests(t *testing.T) {
	for _, cards := range [][]api.Card{pair(), zoo(), many(1), many(api.MaxCards)} {
		b := sealed(t, cards...)
		var names, want []string
		for c := range b.Cards() {
			names = append(names, c.Name)
		}
		for _, c := range cards {
			want = append(want, c.Name)
		}
		if !slices.Equal(names, want) {
			t.Errorf("the book has %v, want %v", names, want)
		}
	}
}
