package deck_test

import (
	"math"
	"slices"
	"strings"
	"testing"

	"gambit/api"
	"gambit/book"
	"gambit/deck"
	"gambit/pile"
	"gambit/whole"
)

// P16.1

var (
	fine   = api.Fault{}
	noBook = api.Fault{Err: api.ErrNil, At: -1}
	isOpen = api.Fault{Err: api.ErrArg, At: -1}
	size   = api.Fault{Err: api.ErrDeck, At: -1}
)

func missing(at int) api.Fault { return api.Fault{Err: api.ErrMissing, At: at} }

func wrong(at int) api.Fault { return api.Fault{Err: api.ErrDeck, At: at} }

func noText(at int) api.Fault { return api.Fault{Err: api.ErrDeckText, At: at} }

// open is an open book with these cards.
func open(t testing.TB, cards ...api.Card) *book.Book {
	t.Helper()
	b := book.New()
	for _, c := range cards {
		if refused := b.Card(c); refused != api.OK {
			t.Fatalf("Card(%s) = %d", c.Name, refused)
		}
	}
	return b
}

func sealed(t testing.TB, cards ...api.Card) *book.Book {
	t.Helper()
	b := open(t, cards...)
	if refused := b.Seal(); refused != api.OK {
		t.Fatalf("Seal() = %d", refused)
	}
	return b
}

// pair has the cards of the chapter's examples: axe 1, rock 2.
func pair() []api.Card {
	call := api.Part{When: api.Begun, Verb: api.Call, Whom: api.You, Count: 1, Name: "rock"}
	return []api.Card{
		{Name: "axe", Suit: api.Air, Kind: api.Relic, Cost: 2, Parts: []api.Part{call}},
		{Name: "rock", Suit: api.Earth, Kind: api.Unit, Cost: 1, Health: 3},
	}
}

const (
	firstToken, midToken, lastToken = 1, 8, 20 // the tokens of zoo
	zooCards                        = 20
)

// zoo has 20 cards of all kinds, tokens at the first number, in the midst and at the last.
func zoo() []api.Card {
	kinds := []api.Kind{api.Unit, api.Spell, api.Relic}
	var list []api.Card
	for n := 1; n <= zooCards; n++ {
		c := api.Card{Name: "z-" + string(rune('a'+n)), Suit: api.Suit(1 + n/5), Kind: kinds[n%3], Cost: 1}
		if n == firstToken || n == midToken || n == lastToken {
			c.Token, c.Kind = true, []api.Kind{api.Unit, api.Relic}[n%2]
		}
		if c.Kind == api.Unit {
			c.Health = 1
		}
		list = append(list, c)
	}
	return list
}

// many has so many cards, no tokens.
func many(count int) []api.Card {
	var list []api.Card
	for i := range count {
		list = append(list, api.Card{Name: string([]byte{'a' + byte(i/26), 'a' + byte(i%26)}), Suit: api.Earth, Kind: api.Relic})
	}
	return list
}

// none has what is no book.
func none() map[string]*book.Book {
	return map[string]*book.Book{"nil": nil, "a literal": {}, "new": new(book.Book)}
}

// opens has open books: without cards, with some, with as many as there may be.
func opens(t testing.TB) []*book.Book {
	return []*book.Book{book.New(), open(t, pair()...), open(t, zoo()...), open(t, many(api.MaxCards)...)}
}

// spread is a list of so many numbers of zoo, no tokens, from 2 on and round again: up to 51 of them none stands more than three times.
func spread(count int) []int {
	round := []int{2, 3, 4, 5, 6, 7, 9, 10, 11, 12, 13, 14, 15, 16, 17, 18, 19}
	list := make([]int, count)
	for i := range list {
		list[i] = round[i%len(round)]
	}
	return list
}

// twelve is a deck of zoo that may be: 2 to 7, 9 to 14.
func twelve() []int { return spread(12) }

// set gives a list with another number at a place.
func set(l []int, at, n int) []int {
	l = slices.Clone(l)
	l[at] = n
	return l
}

func wantCheck(t *testing.T, b *book.Book, l []int, want api.Fault) {
	t.Helper()
	if got := deck.Check(b, l); got != want {
		t.Errorf("Check(%v) = %v, want %v", l, got, want)
	}
}

func TestCheckOfNoBook(t *testing.T) {
	for name, b := range none() {
		for _, l := range [][]int{nil, {}, {0}, spread(11), twelve(), spread(40), spread(41), slices.Repeat([]int{1}, 12)} {
			if got := deck.Check(b, l); got != noBook {
				t.Errorf("Check of %s and %v = %v, want ErrNil", name, l, got)
			}
		}
	}
}

func TestCheckOfAnOpenBook(t *testing.T) {
	for _, b := range opens(t) {
		for _, l := range [][]int{nil, {}, {0}, spread(11), twelve(), spread(40), spread(41), slices.Repeat([]int{1}, 12)} {
			wantCheck(t, b, l, isOpen)
		}
	}
}

// Sealing makes the difference, and nothing else.
func TestCheckAheadOfAndBehindSealing(t *testing.T) {
	b := open(t, zoo()...)
	wantCheck(t, b, twelve(), isOpen)
	b.Seal()
	wantCheck(t, b, twelve(), fine)
}

func TestCheckOfSizes(t *testing.T) {
	b := sealed(t, zoo()...)
	for count := range 100 {
		want := fine
		if count < 12 || count > 40 {
			want = size
		}
		wantCheck(t, b, spread(count), want)
	}
	wantCheck(t, b, nil, size)
	wantCheck(t, b, spread(100_000), size)
	wantCheck(t, b, spread(12)[:11], size) // the spare room is no part of the list
	wantCheck(t, b, spread(41)[:40], fine)
}

// The size is looked at ahead of the numbers.
func TestCheckOfSizesWithOtherFaults(t *testing.T) {
	b := sealed(t, zoo()...)
	for _, count := range []int{1, 2, 11, 41, 42, 80} {
		for _, n := range []int{0, -1, 21, firstToken, midToken, lastToken, 2} {
			wantCheck(t, b, slices.Repeat([]int{n}, count), size)
		}
	}
}

func noNumbers(last int) []int {
	return []int{0, -1, -2, -64, math.MinInt, math.MinInt + 1, last + 1, last + 2, 65, 66, 1 << 8, 1<<8 + 2, 1<<16 + 2, 1<<32 + 2, -1<<32 + 2, math.MaxInt - 1, math.MaxInt}
}

func TestCheckOfANumberThatIsNoCards(t *testing.T) {
	b := sealed(t, zoo()...)
	for _, n := range noNumbers(zooCards) {
		for _, count := range []int{12, 40} {
			for at := range count {
				wantCheck(t, b, set(spread(count), at, n), missing(at))
			}
		}
		wantCheck(t, b, slices.Repeat([]int{n}, 12), missing(0)) // three of it are not ahead of the fault
	}
}

func TestCheckOfASealedBookWithoutCards(t *testing.T) {
	b := sealed(t)
	for _, n := range []int{-1, 0, 1, 2, 64} {
		wantCheck(t, b, slices.Repeat([]int{n}, 12), missing(0))
		wantCheck(t, b, slices.Repeat([]int{n}, 11), size)
	}
}

// Books of each size: the last card's number is one, the next is none.
func TestCheckOfBooksOfEachSize(t *testing.T) {
	for count := 4; count <= api.MaxCards; count++ {
		b := sealed(t, many(count)...)
		l := []int{1, 1, 1, 2, 2, 2, 3, 3, 3, count, 4, 4}
		wantCheck(t, b, l, fine)
		for at := range l {
			wantCheck(t, b, set(l, at, count+1), missing(at))
		}
	}
}

func TestCheckOfAToken(t *testing.T) {
	b := sealed(t, zoo()...)
	for n := 1; n <= zooCards; n++ {
		token := n == firstToken || n == midToken || n == lastToken
		for at := range 12 {
			want := fine
			if token {
				want = wrong(at)
			}
			wantCheck(t, b, set(twelve(), at, n), want)
		}
		if token {
			wantCheck(t, b, slices.Repeat([]int{n}, 12), wrong(0))
		}
	}
}

func TestCheckOfCopiesOneBehindTheOther(t *testing.T) {
	b := sealed(t, zoo()...)
	others := []int{9, 10, 11, 12, 13, 14, 15, 16, 17, 18, 19}
	for begin := range 8 {
		for copies := 1; copies <= 12-begin; copies++ {
			l := slices.Concat(others[:begin], slices.Repeat([]int{2}, copies), others[begin:])[:max(12, begin+copies)]
			want := fine
			if copies > 3 {
				want = wrong(begin + 3)
			}
			wantCheck(t, b, l, want)
		}
	}
}

// All places at which a card can stand in a deck of 12.
func TestCheckOfCopiesApart(t *testing.T) {
	b := sealed(t, zoo()...)
	others := []int{3, 4, 5, 6, 7, 9, 10, 11, 12, 13, 14, 15}
	for places := range 1 << 12 {
		l, stood, want := slices.Clone(others), 0, fine
		for at := range l {
			if places>>at&1 == 1 {
				l[at] = 2
				if stood++; stood == 4 {
					want = wrong(at)
				}
			}
		}
		wantCheck(t, b, l, want)
	}
}

// Each card is counted by itself: the first and the last of the greatest book among them.
func TestCheckOfCopiesOfEachCard(t *testing.T) {
	b := sealed(t, many(api.MaxCards)...)
	for n := 1; n <= api.MaxCards; n++ {
		one, two, three := n%64+1, (n+1)%64+1, (n+2)%64+1
		l := []int{n, one, two, three, n, one, two, three, n, one, two, three}
		wantCheck(t, b, l, fine)
		wantCheck(t, b, append(slices.Clone(l), one), wrong(12))
		for at := 9; at < 12; at++ {
			wantCheck(t, b, set(l, at, n), wrong(at))
		}
	}
}

func TestCheckOfTwoFaults(t *testing.T) {
	b := sealed(t, zoo()...)
	for _, row := range []struct {
		at   map[int]int
		want api.Fault
	}{
		{map[int]int{3: 0, 7: 21}, missing(3)},
		{map[int]int{3: 0, 7: midToken}, missing(3)},
		{map[int]int{3: midToken, 7: 0}, wrong(3)},
		{map[int]int{0: firstToken, 11: lastToken}, wrong(0)},
		{map[int]int{0: 5, 1: 5, 2: 5, 3: 5, 4: 0}, wrong(3)},
		{map[int]int{0: 5, 1: 5, 2: 0, 3: 5, 4: 5}, missing(2)},
		{map[int]int{0: 6, 1: 6, 2: 6, 11: 6, 10: midToken}, wrong(4)}, // 6 stands at 4 itself
		{map[int]int{5: 14, 6: 14, 7: 14, 10: 21, 11: 14}, missing(10)},
		{map[int]int{5: 14, 6: 14, 7: 14, 10: firstToken, 11: 14}, wrong(10)},
		{map[int]int{1: 2, 2: 2, 4: 3, 5: 3, 6: 3, 7: 3, 8: 2}, wrong(7)},
		{map[int]int{1: 2, 2: 2, 4: 3, 5: 3, 6: 3, 7: 2, 8: 3}, wrong(7)},
		{map[int]int{11: -1, 10: midToken}, wrong(10)},
		{map[int]int{11: midToken, 10: -1}, missing(10)},
	} {
		l := twelve()
		for at, n := range row.at {
			l[at] = n
		}
		wantCheck(t, b, l, row.want)
	}
}

// The chapter's examples.
func TestCheckOfExamples(t *testing.T) {
	b := sealed(t, pair()...)
	wantCheck(t, b, []int{1, 1, 1, 1, 2, 2, 2, 2, 2, 2, 2, 2}, wrong(3))
	wantCheck(t, b, []int{1, 1, 1, 2, 2, 2, 2, 2, 2, 2, 2}, size)
	wantCheck(t, b, []int{3, 1, 1, 1, 2, 2, 2, 2, 2, 2, 2, 2}, missing(0))
}

func TestCheckOfTheBookOfTheSixSuits(t *testing.T) {
	b := whole.Book()
	d := []int{1, 2, 3, 4, 5, 7, 8, 9, 10, 12, 14, 15}
	wantCheck(t, b, d, fine)
	for n := -1; n <= 38; n++ {
		c, refused := b.At(n)
		want := fine
		switch {
		case refused != api.OK:
			want = missing(5)
		case slices.Contains(strings.Fields("wisp pebble ember drop shade coin"), c.Name):
			want = wrong(5)
		}
		wantCheck(t, b, set(d, 5, n), want)
	}
}

// checked holds a list against the chapter's words, by means of its own.
func checked(cards []api.Card, l []int) api.Fault {
	if len(l) < 12 || len(l) > 40 {
		return size
	}
	for at, n := range l {
		if n < 1 || n > len(cards) {
			return missing(at)
		}
		same := 0
		for _, other := range l[:at] {
			if other == n {
				same++
			}
		}
		if cards[n-1].Token || same >= 3 {
			return wrong(at)
		}
	}
	return fine
}

// numbers gives a list of so many numbers from least to most, and the generator's state then.
func numbers(count, least, most int, state uint64) ([]int, uint64) {
	list := make([]int, count)
	for i := range list {
		var n uint64
		n, state = pile.Next(state)
		list[i] = least + int(n%uint64(most-least+1))
	}
	return list, state
}

func TestCheckOfManyLists(t *testing.T) {
	b, cards := sealed(t, zoo()...), zoo()
	found := map[api.Errno]int{}
	state := uint64(16)
	for i := range 60_000 {
		least, most := 2, 19
		if i%7 == 0 {
			least, most = -1, 22
		}
		var l []int
		l, state = numbers(10+i%33, least, most, state)
		if i%5 > 0 {
			l = slices.DeleteFunc(l, func(n int) bool { return n == midToken })
		}
		want := checked(cards, l)
		found[want.Err]++
		wantCheck(t, b, l, want)
	}
	for _, e := range []api.Errno{api.OK, api.ErrDeck, api.ErrMissing} {
		if found[e] < 1000 {
			t.Errorf("%d stood %d times only", e, found[e])
		}
	}
}

// P16.2

func wantCount(t *testing.T, l []int, n, want int) {
	t.Helper()
	if got := deck.Count(l, n); got != want {
		t.Errorf("Count(%.80v, %d) = %d, want %d", l, n, got, want)
	}
}

func TestCount(t *testing.T) {
	for _, n := range []int{0, 1, -1, math.MaxInt, math.MinInt} {
		wantCount(t, nil, n, 0)
		wantCount(t, []int{}, n, 0)
		wantCount(t, []int{n}, n, 1)
		wantCount(t, []int{n + 1}, n, 0)
		wantCount(t, []int{n + 1, n, n - 1}, n, 1)
		wantCount(t, []int{n, n + 1, n, n - 1, n}, n, 3)
		wantCount(t, slices.Repeat([]int{n}, 1000), n, 1000)
		wantCount(t, slices.Repeat([]int{n, n + 1}, 1000), n, 1000)
		wantCount(t, slices.Repeat([]int{n}, 1000), n-1, 0)
	}
	wantCount(t, []int{1, 1, 2, 1}, 1, 3)
	wantCount(t, []int{1, 1, 2, 1}, 2, 1)
	wantCount(t, []int{1, 1, 2, 1}, 3, 0)
	wantCount(t, []int{1, 1<<32 + 1, 1<<8 + 1, -1}, 1, 1)
	wantCount(t, []int{1, 1, 1, 1}[:2], 1, 2)
}

// All lists of five numbers out of three: whatever the places.
func TestCountOfAllSmall(t *testing.T) {
	for code := range 243 {
		var l []int
		want := map[int]int{}
		for i := range 5 {
			n := code / []int{1, 3, 9, 27, 81}[i] % 3
			l = append(l, n)
			want[n]++
		}
		for n := -1; n <= 3; n++ {
			wantCount(t, l, n, want[n])
		}
	}
}
