package event_test

import (
	"fmt"
	"math"
	"slices"
	"testing"

	"gambit/api"
	"gambit/book"
	"gambit/event"
)

// P22.1: May and New.

// sound is a scene with things in each place, of both players where there are two kinds: 1 to 3 lie on the table, 4 and 5 stand on the stack, 6 to 8 lie in decks, 9 to 11 in hands, 12 and 13 in graves.
func sound(t testing.TB) scene {
	t.Helper()
	return table(t, "wolf 0 table", "imp 1 table", "nest 0 table",
		"zap 0 stack", "bear 1 stack", "bear 0 deck", "zap 0 deck", "imp 1 deck",
		"bear 0 hand", "bear 0 hand", "zap 1 hand", "zap 0 grave", "wolf 1 grave").by(func(s *api.State) {
		s.Stack = append(s.Stack, api.Item{Thing: 1, Part: 3, Holder: 1, Meant: -2}, api.Item{Thing: 13, Part: 1, Meant: 13})
		s.Things[0].Stamp, s.Things[1].Stamp, s.Things[2].Stamp, s.Stamp = 3, 5, 7, 9
		s.Things[0].Hurt, s.Things[0].Done, s.Things[0].Marks = 1, 1, [4]int{1, 2, 3, 4}
		s.Mana, s.Most, s.Nothing = [2]int{3, 4}, [2]int{5, 6}, [2]int{1, 2}
		s.Turn, s.Word, s.Passes, s.Actions = 1, 1, 1, 77
	})
}

// variant is a change of the sound scene's state.
type variant struct {
	name   string
	change func(*api.State)
}

// variants are one for each of some numbers.
func variants(name string, set func(*api.State, int), numbers ...int) []variant {
	var list []variant
	for _, n := range numbers {
		list = append(list, variant{fmt.Sprint(name, " ", n), func(s *api.State) { set(s, n) }})
	}
	return list
}

// wide are numbers far out of all bounds, some of them small once their upper half is cut off.
func wide() []int {
	return []int{math.MinInt, math.MaxInt, 1 << 32, 1<<32 + 1, -1 << 32, 1<<16 + 1}
}

// out are numbers out of a bound, and those far out.
func out(numbers ...int) []int { return append(numbers, wide()...) }

// rightStates are those within each bound.
func rightStates() []variant {
	return slices.Concat(
		[]variant{{"as it is", func(*api.State) {}}},
		variants("the card of a thing in a deck", func(s *api.State, n int) { s.Things[5].Card = n }, 1, len(cards())-1, len(cards())),
		variants("the card of a thing on the table, none of a spell", func(s *api.State, n int) { s.Things[1].Card = n }, 1, 2, len(cards())),
		variants("a stamp", func(s *api.State, n int) { s.Things[1].Stamp = n }, 1, 2, 4, 6, 8),
		variants("the next stamp", func(s *api.State, n int) { s.Stamp = n }, 8, 10, 999999999, 1000000000),
		variants("the greatest stamp", func(s *api.State, n int) { s.Stamp, s.Things[1].Stamp = 1000000000, n }, 999999998, 999999999),
		variants("hurt", func(s *api.State, n int) { s.Things[1].Hurt = n }, 0, 1, 999999999, 1000000000),
		variants("done", func(s *api.State, n int) { s.Things[1].Done = n }, 0, 1, 2),
		variants("a mark", func(s *api.State, n int) { s.Things[2].Marks = [4]int{n, n, n, n} }, 0, 1, 98, 99),
		[]variant{
			{"fresh", func(s *api.State) { s.Things[1].Fresh = true }},
			{"a deck's order", func(s *api.State) { s.Decks[0] = []int{7, 6} }},
			{"a hand's order", func(s *api.State) { s.Hands[0] = []int{10, 9} }},
			{"the stack's order", func(s *api.State) { slices.Reverse(s.Stack) }},
			{"equal items", func(s *api.State) { item(s, 1, 3, 1); item(s, 1, 3, 1) }},
			{"an item of a Stacked thing's part", func(s *api.State) { item(s, 4, 1, 1) }},
			{"an item of a thing's part, meant the first thing", func(s *api.State) { s.Stack[2].Meant = 1 }},
			{"no things", func(s *api.State) { *s = api.State{Phase: api.Fight, Stamp: 1} }},
			{"over, a draw", func(s *api.State) { s.Over, s.Winner = true, 2 }},
			{"over, the player 1 has won", func(s *api.State) { s.Over, s.Winner = true, 1 }},
			{"over, the player 0 has won", func(s *api.State) { s.Over = true }},
			{"the phase", func(s *api.State) { s.Phase = api.Fight }},
		},
		variants("items", func(s *api.State, n int) { fillStack(s, n) }, 4, 5, 23, 24),
		variants("the part of an item", func(s *api.State, n int) { s.Stack[2].Part = n }, 1, 2, 3),
		variants("the holder of an item", func(s *api.State, n int) { s.Stack[2].Holder = n }, 0, 1),
		variants("whom a part's item means", func(s *api.State, n int) { s.Stack[2].Meant = n }, -2, -1, 0, 1, 12, 13),
		variants("whom a card's item means", func(s *api.State, n int) { s.Stack[0].Meant = n }, -2, -1, 0, 1, 12, 13),
		variants("life", func(s *api.State, n int) { s.Life = [2]int{n, n} }, -1000000000, -999999999, -1, 0, 29, 30),
		variants("mana", func(s *api.State, n int) { s.Mana = [2]int{n, n} }, 0, 10),
		variants("the most mana", func(s *api.State, n int) { s.Most = [2]int{n, n} }, 0, 10),
		variants("nothing", func(s *api.State, n int) { s.Nothing = [2]int{n, n} }, 0, 1000000000),
		variants("the turn", func(s *api.State, n int) { s.Turn = n }, 0, 1),
		variants("the word", func(s *api.State, n int) { s.Word = n }, 0, 1),
		variants("passes", func(s *api.State, n int) { s.Passes = n }, 0, 1),
		variants("actions", func(s *api.State, n int) { s.Actions = n }, 0, 4096),
		variants("things", growTo, 14, 2047, 2048),
		variants("on the table", tableTo, 3, 7, 8),
		variants("in the hand", handTo, 3, 9, 10),
	)
}

// fillStack lays items of parts on the stack, till so many stand there.
func fillStack(s *api.State, count int) {
	for len(s.Stack) < count {
		item(s, 1, 1+len(s.Stack)%3, len(s.Stack)%2)
	}
}

// growTo lays things into the player 1's deck, till there are so many things.
func growTo(s *api.State, count int) {
	for len(s.Things) < count {
		s.Things = append(s.Things, api.Thing{Card: 1, Owner: 1, Place: api.Deck})
		s.Decks[1] = append(s.Decks[1], len(s.Things))
	}
}

// tableTo lays units of the player 0 on the table, till it owns so many things there; two lie there already.
func tableTo(s *api.State, count int) {
	for range count - 2 {
		s.Things = append(s.Things, api.Thing{Card: s.Things[4].Card, Place: api.Table, Stamp: s.Stamp})
		s.Stamp++
	}
}

// handTo lays things into the player 0's hand, till it has so many; two lie there already.
func handTo(s *api.State, count int) {
	for range count - 2 {
		s.Things = append(s.Things, api.Thing{Card: 1, Place: api.Hand})
		s.Hands[0] = append(s.Hands[0], len(s.Things))
	}
}

// wrongThings are those in which one thing may not be.
func wrongThings() []variant {
	var list []variant
	for i := range 13 {
		at := fmt.Sprint("of the thing ", i+1)
		list = slices.Concat(list,
			variants("the card "+at, func(s *api.State, n int) { s.Things[i].Card = n }, out(0, -1, len(cards())+1, 65)...),
			variants("the owner "+at, func(s *api.State, n int) { s.Things[i].Owner = n }, out(-1, 2)...),
			variants("the place "+at, func(s *api.State, n int) { s.Things[i].Place = api.Place(n) }, 0, 6, 7, 255),
		)
	}
	for i := 3; i < 13; i++ {
		at := fmt.Sprint("off the table, of the thing ", i+1)
		list = slices.Concat(list,
			variants("the stamp "+at, func(s *api.State, n int) { s.Things[i].Stamp = n }, out(1, 8, -1)...),
			variants("hurt "+at, func(s *api.State, n int) { s.Things[i].Hurt = n }, out(1, -1)...),
			variants("done "+at, func(s *api.State, n int) { s.Things[i].Done = n }, out(1, -1)...),
			variants("a mark "+at, func(s *api.State, n int) { s.Things[i].Marks[n] = 1 }, 0, 1, 2, 3),
			[]variant{{"fresh " + at, func(s *api.State) { s.Things[i].Fresh = true }}},
		)
	}
	for i := range 3 {
		at := fmt.Sprint("on the table, of the thing ", i+1)
		list = slices.Concat(list,
			[]variant{{"a spell " + at, func(s *api.State) { s.Things[i].Card = s.Things[3].Card }}},
			variants("the stamp "+at, func(s *api.State, n int) { s.Things[i].Stamp = n }, out(0, -1, 9, 10, 3+2*((i+1)%3), 3+2*((i+2)%3))...),
			variants("hurt "+at, func(s *api.State, n int) { s.Things[i].Hurt = n }, -1, 1000000001, math.MinInt, math.MaxInt, 1<<32),
			variants("done "+at, func(s *api.State, n int) { s.Things[i].Done = n }, out(-1, 3)...),
		)
		for m := range 4 {
			list = append(list, variants(fmt.Sprint("the mark ", m+1, " ", at), func(s *api.State, n int) { s.Things[i].Marks[m] = n }, out(-1, 100)...)...)
		}
	}
	return append(list, variants("things", growTo, 2049, 3000)...)
}

// wrongLists are those in which a deck or a hand is not what the things say, or too many lie in one place.
func wrongLists() []variant {
	list := slices.Concat(variants("on the table", tableTo, 9, 10, 17), variants("in the hand", handTo, 11, 12))
	lists := map[string]func(s *api.State) *[]int{
		"the deck 0": func(s *api.State) *[]int { return &s.Decks[0] },
		"the deck 1": func(s *api.State) *[]int { return &s.Decks[1] },
		"the hand 0": func(s *api.State) *[]int { return &s.Hands[0] },
		"the hand 1": func(s *api.State) *[]int { return &s.Hands[1] },
	}
	for name, of := range lists {
		list = slices.Concat(list,
			[]variant{
				{name + ": none", func(s *api.State) { *of(s) = nil }},
				{name + ": one less", func(s *api.State) { *of(s) = (*of(s))[1:] }},
				{name + ": one twice", func(s *api.State) { *of(s) = append(*of(s), (*of(s))[0]) }},
				{name + ": one for all", func(s *api.State) { *of(s) = slices.Repeat((*of(s))[:1], len(*of(s))+1) }},
				{name + ": 3,000", func(s *api.State) { *of(s) = make([]int, 3000) }},
			},
			variants(name+": instead of its first one", func(s *api.State, n int) { (*of(s))[0] = n }, out(0, -1, 1, 2, 4, 5, 12, 13, 14)...),
			variants(name+": besides", func(s *api.State, n int) { *of(s) = append(*of(s), n) }, out(0, -1, 1, 2, 4, 5, 12, 13, 14)...),
		)
	}
	return append(list,
		variant{"both decks changed about", func(s *api.State) { s.Decks[0], s.Decks[1] = s.Decks[1], s.Decks[0] }},
		variant{"both hands changed about", func(s *api.State) { s.Hands[0], s.Hands[1] = s.Hands[1], s.Hands[0] }},
		variant{"deck and hand changed about", func(s *api.State) { s.Decks[0], s.Hands[0] = s.Hands[0], s.Decks[0] }},
		variant{"one of both decks in the other player's too", func(s *api.State) { s.Decks[1] = append(s.Decks[1], 6) }},
		variant{"one in the other player's deck alone", func(s *api.State) { s.Decks = [2][]int{{7}, {8, 6}} }},
		variant{"one in the other player's hand alone", func(s *api.State) { s.Hands = [2][]int{{10}, {11, 9}} }},
		variant{"one twice, another one not", func(s *api.State) { s.Decks[0] = []int{6, 6} }},
	)
}

// wrongStacks are those in which the stack may not be.
func wrongStacks() []variant {
	return slices.Concat(
		variants("items", func(s *api.State, n int) { fillStack(s, n) }, 25, 26, 3000),
		variants("an item's thing", func(s *api.State, n int) { s.Stack[2].Thing = n }, out(0, -1, 14, 2048, 2049)...),
		variants("a card's item's thing", func(s *api.State, n int) { s.Stack[0].Thing = n }, out(0, -1, 1, 5, 6, 9, 12, 14)...),
		variants("an item's part", func(s *api.State, n int) { s.Stack[2].Part = n }, out(-1, 0, 4, 5)...),
		variants("an item's part, of a thing without parts", func(s *api.State, n int) { s.Stack[2] = api.Item{Thing: 3, Part: n} }, out(-1, 0, 1, 2)...),
		variants("an item's part, of a Stacked thing", func(s *api.State, n int) { s.Stack[2] = api.Item{Thing: 4, Part: n} }, out(-1, 0, 2, 3)...),
		variants("an item's holder", func(s *api.State, n int) { s.Stack[2].Holder = n }, out(-1, 2)...),
		variants("the holder of the player 0's card", func(s *api.State, n int) { s.Stack[0].Holder = n }, out(-1, 1, 2)...),
		variants("the holder of the player 1's card", func(s *api.State, n int) { s.Stack[1].Holder = n }, out(-1, 0, 2)...),
		variants("whom a part's item means", func(s *api.State, n int) { s.Stack[2].Meant = n }, out(-3, 14, 15)...),
		variants("whom a card's item means", func(s *api.State, n int) { s.Stack[0].Meant = n }, out(-3, 14, 15)...),
		[]variant{
			{"a Stacked thing twice", func(s *api.State) { s.Stack = append(s.Stack, s.Stack[0]) }},
			{"a Stacked thing twice, meaning two", func(s *api.State) {
				s.Stack = append(s.Stack, api.Item{Thing: 4, Meant: -1})
			}},
			{"a Stacked thing twice, another one not", func(s *api.State) { s.Stack[1] = s.Stack[0] }},
			{"a Stacked thing not", func(s *api.State) { s.Stack = s.Stack[1:] }},
			{"a Stacked thing's part alone", func(s *api.State) { s.Stack[0].Part = 1 }},
			{"no stack", func(s *api.State) { s.Stack = nil }},
			{"a card's item of a thing on the table", func(s *api.State) { item(s, 1, 0, 0) }},
			{"a card's item of a thing in the hand", func(s *api.State) { item(s, 9, 0, 0) }},
			{"a card's item of a thing in a grave", func(s *api.State) { item(s, 12, 0, 0) }},
			{"an item of nothing", func(s *api.State) { s.Stack = append(s.Stack, api.Item{}) }},
		},
	)
}

// wrongNumbers are those in which a number may not be.
func wrongNumbers() []variant {
	list := slices.Concat(
		variants("the turn", func(s *api.State, n int) { s.Turn = n }, out(-1, 2)...),
		variants("the word", func(s *api.State, n int) { s.Word = n }, out(-1, 2)...),
		variants("passes", func(s *api.State, n int) { s.Passes = n }, out(-1, 2)...),
		variants("the phase", func(s *api.State, n int) { s.Phase = api.Phase(n) }, 0, 3, 4, 255),
		variants("the next stamp", func(s *api.State, n int) { s.Stamp = n }, -1, 0, 1, 6, 7, 1000000001, 1<<40, 1<<40+1, math.MinInt, math.MaxInt),
		variants("the next stamp, of no things", func(s *api.State, n int) { *s = api.State{Phase: api.Main, Stamp: n} }, 0, -1, 1000000001, math.MaxInt),
		variants("actions", func(s *api.State, n int) { s.Actions = n }, out(-1, 4097)...),
		variants("the winner", func(s *api.State, n int) { s.Winner = n }, out(-1, 1, 2, 3)...),
		variants("the winner, over", func(s *api.State, n int) { s.Over, s.Winner = true, n }, out(-1, 3)...),
	)
	for who := range 2 {
		of := fmt.Sprint("of the player ", who)
		list = slices.Concat(list,
			variants("life "+of, func(s *api.State, n int) { s.Life[who] = n }, 31, -1000000001, math.MinInt, math.MaxInt, 1<<32, -1<<32),
			variants("mana "+of, func(s *api.State, n int) { s.Mana[who] = n }, out(-1, 11)...),
			variants("the most mana "+of, func(s *api.State, n int) { s.Most[who] = n }, out(-1, 11)...),
			variants("nothing "+of, func(s *api.State, n int) { s.Nothing[who] = n }, -1, 1000000001, math.MinInt, math.MaxInt, 1<<32),
		)
	}
	return list
}

func wrongStates() []variant {
	return slices.Concat(wrongThings(), wrongLists(), wrongStacks(), wrongNumbers())
}

// wantMayNot: a state may not be, and New refuses it.
func (sc scene) wantMayNot(t *testing.T, refused api.Errno) {
	t.Helper()
	if event.May(sc.b, sc.s) {
		t.Error("May = true")
	}
	if w, e := event.New(sc.b, sc.s); w != nil || e != refused {
		t.Errorf("New = %v, %d, want %d", w, e, refused)
	}
}

// wantMay: a state may be, and New makes a world of it in which no event has begun.
func (sc scene) wantMay(t *testing.T) {
	t.Helper()
	if !event.May(sc.b, sc.s) {
		t.Error("May = false")
	}
	sc.wantWorld(t, sc.world(t), sc.s, 0)
}

func TestStatesThatMayBe(t *testing.T) {
	for _, v := range rightStates() {
		t.Run(v.name, func(t *testing.T) { sound(t).by(v.change).wantMay(t) })
	}
}

func TestStatesThatMayNotBe(t *testing.T) {
	for _, v := range wrongStates() {
		t.Run(v.name, func(t *testing.T) { sound(t).by(v.change).wantMayNot(t, api.ErrArg) })
	}
}

// Each player has its own 8 on the table and 10 in the hand.
func TestBothPlayersPlacesAreFull(t *testing.T) {
	sc := sound(t).by(func(s *api.State) {
		tableTo(s, 8)
		handTo(s, 10)
		for range 7 {
			s.Things = append(s.Things, api.Thing{Card: s.Things[2].Card, Owner: 1, Place: api.Table, Stamp: s.Stamp})
			s.Stamp++
		}
		for range 9 {
			s.Things = append(s.Things, api.Thing{Card: 1, Owner: 1, Place: api.Hand})
			s.Hands[1] = append(s.Hands[1], len(s.Things))
		}
	})
	sc.wantMay(t)
	for _, place := range []string{"table", "hand"} {
		sc.with(t, "bear 1 "+place).wantMayNot(t, api.ErrArg)
	}
}

// nobodys has what is no book.
func nobodys() map[string]*book.Book {
	return map[string]*book.Book{"nil": nil, "a literal": {}, "new": new(book.Book)}
}

func TestNoBook(t *testing.T) {
	for kind, b := range nobodys() {
		for _, v := range append(wrongStates(), rightStates()...) {
			t.Run(kind+", "+v.name, func(t *testing.T) {
				sc := sound(t).by(v.change)
				sc.b = b
				sc.wantMayNot(t, api.ErrNil)
			})
		}
	}
}

func TestOpenBook(t *testing.T) {
	for _, v := range append(wrongStates(), rightStates()...) {
		t.Run(v.name, func(t *testing.T) {
			sc := sound(t).by(v.change)
			sc.b = open(t, cards()...)
			sc.wantMayNot(t, api.ErrArg)
		})
	}
	scene{book.New(), api.State{Phase: api.Main, Stamp: 1}}.wantMayNot(t, api.ErrArg)
	scene{sealed(t), api.State{Phase: api.Main, Stamp: 1}}.wantMay(t)
	scene{sealed(t), sound(t).s}.wantMayNot(t, api.ErrArg)
	scene{sealed(t), api.State{}}.wantMayNot(t, api.ErrArg)
}
