package deck_test

import (
	"fmt"
	"math"
	"regexp"
	"slices"
	"strconv"
	"strings"
	"testing"

	"gambit/api"
	"gambit/book"
	"gambit/deck"
)

// P16.4

// wantParse holds Parse's answer against a list or, beside no list, a fault.
func wantParse(t *testing.T, b *book.Book, text string, list []int, fault api.Fault) {
	t.Helper()
	if got, f := deck.Parse(b, text); !slices.Equal(got, list) || f != fault {
		t.Errorf("Parse(%.200q) = %v, %v, want %v, %v", text, got, f, list, fault)
	}
}

func TestParseOfNoBook(t *testing.T) {
	for name, b := range none() {
		for _, text := range []string{"", "\n", "1 axe\n", "1 axe", "0 axe\n", "1 x\n", "40 axe\n1 rock\n"} {
			if list, f := deck.Parse(b, text); len(list) != 0 || f != noBook {
				t.Errorf("Parse of %s and %q = %v, %v, want ErrNil", name, text, list, f)
			}
		}
	}
}

func TestParseOfAnOpenBook(t *testing.T) {
	for _, b := range opens(t) {
		for _, text := range []string{"", "\n", "1 axe\n", "1 axe", "0 axe\n", "1 x\n", "40 axe\n1 rock\n"} {
			wantParse(t, b, text, nil, isOpen)
		}
	}
}

func TestParseAheadOfAndBehindSealing(t *testing.T) {
	b := open(t, pair()...)
	wantParse(t, b, "1 axe\n", nil, isOpen)
	b.Seal()
	wantParse(t, b, "1 axe\n", []int{1}, fine)
}

func TestParse(t *testing.T) {
	b := sealed(t, pair()...)
	for _, row := range []struct {
		text string
		list []int
	}{
		{"", nil},
		{"1 axe\n", []int{1}},
		{"1 rock\n", []int{2}},
		{"2 axe\n1 rock\n1 axe\n", []int{1, 1, 2, 1}},
		{"1 rock\n1 axe\n", []int{2, 1}},
		{"3 rock\n2 axe\n4 rock\n", []int{2, 2, 2, 1, 1, 2, 2, 2, 2}},
		{"40 rock\n", slices.Repeat([]int{2}, 40)},
		{"39 rock\n1 axe\n", append(slices.Repeat([]int{2}, 39), 1)},
		{strings.Repeat("1 axe\n1 rock\n", 20), slices.Repeat([]int{1, 2}, 20)},
	} {
		wantParse(t, b, row.text, row.list, fine)
	}
}

func TestParseOfASealedBookWithoutCards(t *testing.T) {
	b := sealed(t)
	wantParse(t, b, "", nil, fine)
	wantParse(t, b, "1 axe\n", nil, missing(0))
	wantParse(t, b, "41 axe\n", nil, noText(0))
}

// Tokens, too few and too many of one are read: that a deck may be is not asked.
func TestParseOfDecksThatMayNotBe(t *testing.T) {
	b := sealed(t, zoo()...)
	wantParse(t, b, "1 z-b\n1 z-c\n12 z-i\n1 z-u\n", slices.Concat([]int{1, 2}, slices.Repeat([]int{8}, 12), []int{20}), fine)
}

// badLines has lines that are none, whatever stands ahead of them. They have their byte 10, if one belongs to what is tried.
func badLines() []string {
	var list []string
	for _, number := range []string{"", "0", "00", "01", "001", "02", "010", "041", "0x1", "0b1", "1_0", "-1", "-0", "+1", "+0", "41", "42", "50", "99", "100", "101", "140", "256", "257", "297", "400", "65537", "4294967297",
		"9223372036854775807", "9223372036854775808", "18446744073709551615", "18446744073709551617", "-18446744073709551615", strings.Repeat("1", 1000), strings.Repeat("0", 1000) + "1",
		"a", "axe", "1a", "a1", "1.0", "1.", ".1", "1e1", "1,", "one", "\u0661", "\uff11", "1\x00", "\x001", "\xff", "1\t", "\t1", "1\r", "x1", "1-", "1 1", " 1", "1 ", "  1", "-", "+", "\u00b9", "#1", "1x"} {
		list = append(list, number+" axe\n", number+" \n")
	}
	for _, name := range []string{"", " ", "axe ", " axe", "Axe", "axE", "AXE", "axe1", "1", "-", "-axe", "axe_", "axe.", "axe\r", "axe\x00", "\x00axe", "axe\t", "\taxe", "\u00e4xe", "\xff", "axe rock", "axe 1", "axe 1 rock", "a|b",
		strings.Repeat("a", 21), strings.Repeat("a", 1000), strings.Repeat("-", 20), "axe\u00a0", "axe,"} {
		list = append(list, "1 "+name+"\n")
	}
	return append(list, "\n", " \n", "1\n", "axe\n", "1axe\n", "1\taxe\n", "1\u00a0axe\n", "1-axe\n", "1,axe\n", "axe 1\n", "40\n", "\r\n", "1 axe\r\n", "\x00\n", "1  axe\n", " 1 axe\n", "1 axe \n")
}

func TestParseOfLinesThatAreNone(t *testing.T) {
	b := sealed(t, pair()...)
	for _, line := range badLines() {
		wantParse(t, b, line, nil, noText(0))
		wantParse(t, b, "2 rock\n"+line, nil, noText(1))
		wantParse(t, b, "2 rock\n1 axe\n"+line, nil, noText(2))
		wantParse(t, b, line+"2 rock\n", nil, noText(0))
		wantParse(t, b, line+"2 x\n", nil, noText(0))
		wantParse(t, b, strings.Repeat("1 rock\n1 axe\n", 20)+line, nil, noText(40))
	}
}

func TestParseOfEachNumber(t *testing.T) {
	b := sealed(t, pair()...)
	for n := -300; n <= 700; n++ {
		list, fault := []int(nil), noText(0)
		if n >= 1 && n <= 40 {
			list, fault = slices.Repeat([]int{1}, n), fine
		}
		wantParse(t, b, fmt.Sprintf("%d axe\n", n), list, fault)
		wantParse(t, b, fmt.Sprintf("+%d axe\n", n), nil, noText(0))
		wantParse(t, b, fmt.Sprintf("0%d axe\n", n), nil, noText(0))
	}
	for _, n := range []int{math.MinInt, math.MaxInt, 1<<32 + 1, 1<<16 + 1} {
		wantParse(t, b, strconv.Itoa(n)+" axe\n", nil, noText(0))
	}
}

func TestParseOfALineWithoutItsEnd(t *testing.T) {
	b := sealed(t, pair()...)
	for _, line := range []string{"1 axe", "1 x", "0 axe", "1", "a", " ", "1 ", "1 axe\r", "40 axe", "41 axe"} {
		wantParse(t, b, line, nil, noText(0))
		wantParse(t, b, "1 rock\n"+line, nil, noText(1))
		wantParse(t, b, "1 axe\n"+line, nil, noText(1)) // ahead of the name that stands in the line ahead
		wantParse(t, b, "40 rock\n"+line, nil, noText(1))
		wantParse(t, b, "1 axe\n2 rock\n"+line, nil, noText(2))
	}
	text := "2 axe\n1 rock\n12 axe\n"
	for end := range len(text) {
		if list, fault := parsed(pair(), text[:end]); end > 0 && text[end-1] != '\n' {
			wantParse(t, b, text[:end], nil, noText(strings.Count(text[:end], "\n")))
		} else {
			wantParse(t, b, text[:end], list, fault)
		}
	}
}

func TestParseOfANameThatNoCardHas(t *testing.T) {
	b := sealed(t, pair()...)
	for _, name := range []string{"x", "a", "ax", "axes", "axe-", "xe", "roc", "rocks", "rock-axe", "unit", "earth", "z", strings.Repeat("a", 20), "a" + strings.Repeat("-", 19)} {
		for _, times := range []string{"1 ", "9 ", "40 "} {
			line := times + name + "\n"
			wantParse(t, b, line, nil, missing(0))
			wantParse(t, b, line+line, nil, missing(0))
			wantParse(t, b, "1 axe\n"+line, nil, missing(1))
			wantParse(t, b, "1 axe\n2 rock\n"+line+"1 axe", nil, missing(2))
		}
	}
}

func TestParseOfOneCardInTwoLines(t *testing.T) {
	b := sealed(t, pair()...)
	for _, row := range []struct {
		text  string
		list  []int
		fault api.Fault
	}{
		{"1 axe\n1 axe\n", nil, noText(1)},
		{"2 axe\n1 axe\n", nil, noText(1)},
		{"1 rock\n3 rock\n", nil, noText(1)},
		{"1 axe\n1 axe\n1 axe\n", nil, noText(1)},
		{"1 rock\n1 axe\n1 axe\n", nil, noText(2)},
		{"1 axe\n1 rock\n1 axe\n1 rock\n1 rock\n", nil, noText(4)},
		{"1 axe\n1 axe\n1 x\n", nil, noText(1)},
		{"1 axe\n1 x\n1 axe\n", nil, missing(1)},
		{"1 x\n1 x\n", nil, missing(0)},
		{"40 axe\n40 axe\n", nil, noText(1)}, // told of the line that has the 41st, ahead of their being too many
		{"1 axe\n1 rock\n1 axe\n", []int{1, 2, 1}, fine},
		{"1 axe\n1 rock\n1 axe\n1 rock\n", []int{1, 2, 1, 2}, fine},
	} {
		wantParse(t, b, row.text, row.list, row.fault)
	}
}

// The card with the number 1 has no line ahead of the first one, nor has any other.
func TestParseOfEachCardInTheFirstLine(t *testing.T) {
	cards := many(api.MaxCards)
	b := sealed(t, cards...)
	for i, c := range cards {
		wantParse(t, b, "1 "+c.Name+"\n", []int{i + 1}, fine)
		wantParse(t, b, "40 "+c.Name+"\n", slices.Repeat([]int{i + 1}, 40), fine)
		wantParse(t, b, "1 "+c.Name+"\n1 "+c.Name+"\n", nil, noText(1))
		next := (i + 1) % len(cards)
		wantParse(t, b, "1 "+c.Name+"\n2 "+cards[next].Name+"\n", []int{i + 1, next + 1, next + 1}, fine)
	}
}

func TestParseOfTooManyCards(t *testing.T) {
	b := sealed(t, pair()...)
	for one := 1; one <= 40; one++ {
		for two := 1; two <= 40; two++ {
			list, fault := slices.Repeat([]int{1}, one), size
			if list = append(list, slices.Repeat([]int{2}, two)...); len(list) <= 40 {
				fault = fine
			} else {
				list = nil
			}
			wantParse(t, b, fmt.Sprintf("%d axe\n%d rock\n", one, two), list, fault)
		}
	}
	forty := strings.Repeat("1 axe\n1 rock\n", 20)
	wantParse(t, b, forty, slices.Repeat([]int{1, 2}, 20), fine)
	wantParse(t, b, forty+"1 axe\n", nil, size)
	wantParse(t, b, forty+"40 axe\n", nil, size)
	wantParse(t, b, strings.Repeat("1 axe\n1 rock\n", 50_000), nil, size)
	wantParse(t, b, strings.Repeat("40 axe\n40 rock\n", 50_000), nil, size)
}

// Lines behind the one that has the 41st are not read; that one is, and those ahead of it.
func TestParseOfFaultsAboutThe41st(t *testing.T) {
	b := sealed(t, pair()...)
	others := append(badLines(), "1 x\n", "1 axe", "1 rock\n", "1 axe\n", "40 rock\n", "1 rock\n1 rock\n", "garbage")
	for _, line := range others {
		wantParse(t, b, "40 axe\n1 rock\n"+line, nil, size)
		wantParse(t, b, "20 axe\n20 rock\n40 axe\n"+line, nil, size)
		wantParse(t, b, "40 axe\n40 rock\n1 axe\n"+line, nil, size)
	}
	wantParse(t, b, "40 axe\n1 x\n", nil, missing(1))
	wantParse(t, b, "40 axe\n40 x\n", nil, missing(1))
	wantParse(t, b, "40 axe\n1 axe\n", nil, noText(1))
	wantParse(t, b, "40 axe\n0 rock\n", nil, noText(1))
	wantParse(t, b, "40 axe\n41 rock\n", nil, noText(1))
	wantParse(t, b, "40 axe\n1 rock", nil, noText(1))
	wantParse(t, b, "39 axe\n1 rock\n1 rock\n", nil, noText(2))
	wantParse(t, b, "39 axe\n1 rock\n1 x\n1 axe\n", nil, missing(2))
	wantParse(t, b, "39 axe\n1 x\n40 axe\n", nil, missing(1))
	wantParse(t, b, "41 axe\n40 rock\n1 axe\n", nil, noText(0))
}

// The chapter's examples.
func TestParseOfExamples(t *testing.T) {
	b := sealed(t, pair()...)
	for text, fault := range map[string]api.Fault{
		"0 axe\n": noText(0), "02 axe\n": noText(0), "1 axe": noText(0), "1 x\n": missing(0), "1 axe\n1 axe\n": noText(1), "40 axe\n1 rock\n": size,
	} {
		wantParse(t, b, text, nil, fault)
	}
	wantParse(t, b, "2 axe\n1 rock\n1 axe\n", []int{1, 1, 2, 1}, fine)
}

var lineForm = regexp.MustCompile(`^([1-9]|[1-3][0-9]|40) ([a-z][a-z-]{0,19})\n`)

// parsed reads a text by the chapter's words, by means of its own.
func parsed(cards []api.Card, text string) ([]int, api.Fault) {
	var list []int
	last := ""
	for at := 0; text != "" && len(list) <= 40; at++ {
		m := lineForm.FindStringSubmatch(text)
		if m == nil {
			return nil, noText(at)
		}
		place := slices.IndexFunc(cards, func(c api.Card) bool { return c.Name == m[2] })
		if place < 0 {
			return nil, missing(at)
		}
		if m[2] == last {
			return nil, noText(at)
		}
		times, _ := strconv.Atoi(m[1])
		list = append(list, slices.Repeat([]int{place + 1}, times)...)
		text, last = text[len(m[0]):], m[2]
	}
	if len(list) > 40 {
		return nil, size
	}
	return list, fine
}

func wantParsed(t *testing.T, b *book.Book, text string) {
	t.Helper()
	list, fault := parsed(pair(), text)
	wantParse(t, b, text, list, fault)
}

// Every byte at every place: in a byte's place, ahead of it, and none there.
func TestParseOfTextsWithAByteChanged(t *testing.T) {
	b := sealed(t, pair()...)
	for _, text := range []string{"1 axe\n", "2 axe\n1 rock\n1 axe\n", "39 rock\n1 axe\n", "10 axe\n30 rock\n1 axe\n2 axe\n"} {
		for at := range len(text) + 1 {
			for n := range math.MaxUint8 + 1 {
				one := string([]byte{byte(n)})
				wantParsed(t, b, text[:at]+one+text[at:])
				if at < len(text) {
					wantParsed(t, b, text[:at]+one+text[at+1:])
				}
			}
			if at < len(text) {
				wantParsed(t, b, text[:at]+text[at+1:])
				wantParsed(t, b, text[:at])
			}
		}
	}
}

// All texts of up to six pieces.
func TestParseOfPieces(t *testing.T) {
	b := sealed(t, pair()...)
	pieces := []string{"1", "0", "4", " ", "axe", "rock", "\n", "x"}
	texts := []string{""}
	for range 6 {
		var longer []string
		for _, text := range texts {
			for _, piece := range pieces {
				longer = append(longer, text+piece)
				wantParsed(t, b, text+piece)
			}
		}
		texts = longer
		if t.Failed() {
			return
		}
	}
}

// All texts of up to four lines out of some.
func TestParseOfLines(t *testing.T) {
	b := sealed(t, pair()...)
	lines := []string{"1 axe\n", "1 rock\n", "12 axe\n", "20 rock\n", "39 axe\n", "40 axe\n", "40 rock\n", "1 x\n", "0 axe\n", "41 rock\n", "1 Axe\n", "\n", "1 axe"}
	texts := []string{""}
	for range 4 {
		var longer []string
		for _, text := range texts {
			for _, line := range lines {
				longer = append(longer, text+line)
				wantParsed(t, b, text+line)
			}
		}
		texts = longer
		if t.Failed() {
			return
		}
	}
}
