package deck_test

import (
	"slices"
	"testing"

	"gambit/api"
	"gambit/deck"
	"gambit/pile"
	"gambit/whole"
)

// P16.5

// wantRound holds against a list that it is told as a text, and read of that again.
func wantRound(t *testing.T, l []int) {
	t.Helper()
	b := whole.Book()
	text, fault := deck.Print(b, l)
	if fault != fine {
		t.Fatalf("Print(%v) = %v", l, fault)
	}
	if got, fault := deck.Parse(b, text); !slices.Equal(got, l) || fault != fine {
		t.Errorf("Parse of Print(%v), %q, = %v, %v", l, text, got, fault)
	}
}

func TestParseOfPrint(t *testing.T) {
	state := uint64(5)
	for count := range 41 {
		for _, most := range []int{1, 2, 3, 36} { // few cards make long runs
			for range 20 {
				var l []int
				l, state = numbers(count, 1, most, state)
				wantRound(t, l)
				slices.Sort(l)
				wantRound(t, l)
			}
		}
	}
}

// All lists of up to nine numbers out of two: every way in which runs can lie.
func TestParseOfPrintOfAllSmall(t *testing.T) {
	b := sealed(t, pair()...)
	for count := range 10 {
		for code := range 1 << count {
			l := make([]int, count)
			for i := range l {
				l[i] = 1 + code>>i&1
			}
			text, _ := deck.Print(b, l)
			wantParse(t, b, text, l, fine)
			wantParsed(t, b, text)
		}
	}
}

func TestPrintOfParse(t *testing.T) {
	b := sealed(t, pair()...)
	lines := []string{"1 axe\n", "1 rock\n", "3 axe\n", "9 rock\n", "10 axe\n", "20 rock\n", "40 axe\n", "01 axe\n", "1 x\n"}
	texts, read := []string{""}, 0
	for range 5 {
		var longer []string
		for _, text := range texts {
			for _, line := range lines {
				longer = append(longer, text+line)
			}
		}
		texts = longer
		for _, text := range texts {
			list, fault := deck.Parse(b, text)
			if fault != fine {
				continue
			}
			read++
			if got, fault := deck.Print(b, list); got != text || fault != fine {
				t.Fatalf("Print of Parse(%q) = %q, %v", text, got, fault)
			}
		}
	}
	if read < 100 {
		t.Errorf("only %d texts were read", read)
	}
}

// full is a deck of the six suits' book with three of each of its first cards that are no tokens.
func full(count int) []int {
	b := whole.Book()
	var list []int
	for n := 1; len(list) < count; n++ {
		if c, _ := b.At(n); !c.Token {
			list = append(list, n, n, n)
		}
	}
	return list[:count]
}

func TestADeckThatMayBeInAnotherOrderMayBe(t *testing.T) {
	b := whole.Book()
	state := uint64(1)
	for count := 12; count <= 40; count++ {
		l := full(count)
		wantCheck(t, b, l, fine)
		for range 50 {
			l, state = pile.Shuffle(l, state)
			wantCheck(t, b, l, fine)
		}
		slices.Sort(l)
		wantCheck(t, b, l, fine)
		slices.Reverse(l)
		wantCheck(t, b, l, fine)
	}
}

// In whatever order, what is more than what may be is told at its first place: the fourth of a card.
func TestOneTooManyInWhateverOrder(t *testing.T) {
	b := whole.Book()
	state := uint64(2)
	for count := 12; count < 40; count++ {
		l := append(full(count), 1)
		for range 50 {
			l, state = pile.Shuffle(l, state)
			want, stood := -1, 0
			for at, n := range l {
				if n == 1 {
					if stood++; stood == 4 {
						want = at
					}
				}
			}
			wantCheck(t, b, l, wrong(want))
		}
	}
}

// Check and Count say the same of how often a card may stand.
func TestCheckAndCount(t *testing.T) {
	b := sealed(t, many(4)...)
	for code := range 1 << 12 {
		l := make([]int, 12)
		for i := range l {
			l[i] = 1 + (code>>i&1)*2 + i%2
		}
		most := 0
		for n := 1; n <= 4; n++ {
			most = max(most, deck.Count(l, n))
		}
		if f := deck.Check(b, l); (f == fine) != (most <= api.MaxCopies) {
			t.Errorf("Check(%v) = %v, where a card stands %d times", l, f, most)
		}
	}
}
