package deck_test

import (
	"fmt"
	"slices"
	"strings"
	"testing"

	"gambit/api"
	"gambit/book"
	"gambit/deck"
	"gambit/whole"
)

// P16.3

// wantPrint holds Print's answer against a text or, beside the empty text, a fault.
func wantPrint(t *testing.T, b *book.Book, l []int, text string, fault api.Fault) {
	t.Helper()
	if got, f := deck.Print(b, l); got != text || f != fault {
		t.Errorf("Print(%v) = %q, %v, want %q, %v", l, got, f, text, fault)
	}
}

func TestPrintOfNoBook(t *testing.T) {
	for name, b := range none() {
		for _, l := range [][]int{nil, {}, {1}, {0}, {1, 1, 2, 1}, spread(12), spread(40), spread(41), make([]int, 41)} {
			if text, f := deck.Print(b, l); text != "" || f != noBook {
				t.Errorf("Print of %s and %v = %q, %v, want ErrNil", name, l, text, f)
			}
		}
	}
}

func TestPrintOfAnOpenBook(t *testing.T) {
	for _, b := range opens(t) {
		for _, l := range [][]int{nil, {}, {1}, {0}, {1, 1, 2, 1}, spread(12), spread(40), spread(41), make([]int, 41)} {
			wantPrint(t, b, l, "", isOpen)
		}
	}
}

func TestPrintAheadOfAndBehindSealing(t *testing.T) {
	b := open(t, pair()...)
	wantPrint(t, b, []int{1}, "", isOpen)
	b.Seal()
	wantPrint(t, b, []int{1}, "1 axe\n", fine)
}

func TestPrint(t *testing.T) {
	b := sealed(t, pair()...)
	for _, row := range []struct {
		list []int
		text string
	}{
		{nil, ""},
		{[]int{}, ""},
		{[]int{1}, "1 axe\n"},
		{[]int{2}, "1 rock\n"},
		{[]int{1, 1}, "2 axe\n"},
		{[]int{1, 2}, "1 axe\n1 rock\n"},
		{[]int{2, 1}, "1 rock\n1 axe\n"},
		{[]int{2, 2}, "2 rock\n"},
		{[]int{1, 1, 2, 1}, "2 axe\n1 rock\n1 axe\n"},
		{[]int{1, 2, 2, 1}, "1 axe\n2 rock\n1 axe\n"},
		{[]int{1, 2, 1, 2}, "1 axe\n1 rock\n1 axe\n1 rock\n"},
		{[]int{2, 2, 2, 2, 1, 1, 1, 1}, "4 rock\n4 axe\n"},
		{[]int{1, 1, 1, 2, 2, 2, 1, 1, 1, 2, 2, 2}, "3 axe\n3 rock\n3 axe\n3 rock\n"},
		{[]int{1, 1, 1, 1, 1}[:3], "3 axe\n"}, // the spare room is no part of the list
		{[]int{1, 2, 2, 2, 2}[:2], "1 axe\n1 rock\n"},
	} {
		wantPrint(t, b, row.list, row.text, fine)
	}
}

func TestPrintOfRunsOfEachLength(t *testing.T) {
	b := sealed(t, pair()...)
	for count := 1; count <= 40; count++ {
		run := slices.Repeat([]int{1}, count)
		wantPrint(t, b, run, fmt.Sprintf("%d axe\n", count), fine)
		if count < 40 {
			wantPrint(t, b, append(slices.Clone(run), 2), fmt.Sprintf("%d axe\n1 rock\n", count), fine)
			wantPrint(t, b, append([]int{2}, run...), fmt.Sprintf("1 rock\n%d axe\n", count), fine)
		}
	}
}

func TestPrintOfSizes(t *testing.T) {
	b := sealed(t, pair()...)
	for count := range 100 {
		rounds := slices.Repeat([]int{2, 1}, 50)[:count]
		if count > 40 {
			wantPrint(t, b, rounds, "", size)
			wantPrint(t, b, slices.Repeat([]int{1}, count), "", size)
			wantPrint(t, b, slices.Repeat([]int{0}, count), "", size) // ahead of the numbers
			continue
		}
		text := strings.Repeat("1 rock\n1 axe\n", count/2) + strings.Repeat("1 rock\n", count%2)
		wantPrint(t, b, rounds, text, fine)
	}
	wantPrint(t, b, make([]int, 100_000), "", size)
}

func TestPrintOfANumberThatIsNoCards(t *testing.T) {
	b := sealed(t, pair()...)
	for _, n := range noNumbers(2) {
		wantPrint(t, b, []int{n}, "", missing(0))
		wantPrint(t, b, []int{n, n}, "", missing(0))
		wantPrint(t, b, []int{1, n}, "", missing(1))
		wantPrint(t, b, []int{1, 1, 1, n}, "", missing(3))
		wantPrint(t, b, []int{1, 1, n, 1, 1}, "", missing(2))
		wantPrint(t, b, []int{1, 1, 2, n, n, n, n + 1}, "", missing(3))
		wantPrint(t, b, slices.Repeat([]int{n}, 40), "", missing(0))
		for at := range 40 {
			wantPrint(t, b, set(slices.Repeat([]int{1}, 40), at, n), "", missing(at))
			wantPrint(t, b, set(slices.Repeat([]int{2, 1}, 20), at, n), "", missing(at))
		}
	}
	wantPrint(t, b, []int{1, 3, 0}, "", missing(1))
	wantPrint(t, b, []int{0, 1, 3}, "", missing(0))
}

func TestPrintOfASealedBookWithoutCards(t *testing.T) {
	b := sealed(t)
	wantPrint(t, b, nil, "", fine)
	wantPrint(t, b, []int{1}, "", missing(0))
	wantPrint(t, b, make([]int, 41), "", size)
}

// Whether a deck may be is not asked: too few, tokens, too many of one.
func TestPrintOfDecksThatMayNotBe(t *testing.T) {
	b := sealed(t, zoo()...)
	for _, row := range []struct {
		list []int
		text string
	}{
		{[]int{firstToken, 2, lastToken}, "1 z-b\n1 z-c\n1 z-u\n"},
		{slices.Repeat([]int{midToken}, 12), "12 z-i\n"},
		{slices.Repeat([]int{19}, 40), "40 z-t\n"},
		{[]int{5, 5, 5, 5}, "4 z-f\n"},
	} {
		if deck.Check(b, row.list) == fine {
			t.Errorf("Check(%v) takes it", row.list)
		}
		wantPrint(t, b, row.list, row.text, fine)
	}
}

// Each card of the greatest book by its name; the longest name too.
func TestPrintOfEachCard(t *testing.T) {
	cards := many(api.MaxCards - 1)
	cards = append(cards, api.Card{Name: strings.Repeat("z", 20), Suit: api.Gold, Kind: api.Spell})
	b := sealed(t, cards...)
	for i, c := range cards {
		wantPrint(t, b, []int{i + 1}, "1 "+c.Name+"\n", fine)
		wantPrint(t, b, slices.Repeat([]int{i + 1}, 40), "40 "+c.Name+"\n", fine)
		wantPrint(t, b, []int{i%64 + 1, (i+1)%64 + 1}, "1 "+c.Name+"\n1 "+cards[(i+1)%64].Name+"\n", fine)
	}
}

func TestPrintOfTheBookOfTheSixSuits(t *testing.T) {
	wantPrint(t, whole.Book(), []int{1, 1, 1, 2, 36, 36, 1, 7}, "3 breeze\n1 calm\n2 treasure\n1 breeze\n1 boulder\n", fine)
}
