package card_test

import (
	"reflect"
	"slices"
	"strconv"
	"strings"
	"sync"
	"testing"

	"gambit/api"
	"gambit/card"
)

// partTexts are parts that may be, each with its text; the one with the longest text of all is among them.
func partTexts() map[api.Part]string {
	return map[api.Part]string{
		of(api.Played): "played mend you 1",
		of(api.Broken): "broken mend you 1",
		of(api.Begun):  "begun mend you 1",
		of(api.Struck): "struck mend you 1",
		of(api.Always): "always raise dyed -1 fire",
		of(api.Rather): "rather less yours 1",
		{When: api.Played, Verb: api.Harm, Whom: api.It, Count: 3}:                                       "played harm it 3",
		{When: api.Played, Verb: api.Break, Whom: api.All}:                                               "played break all",
		{When: api.Played, Verb: api.Call, Whom: api.With, Count: 2, Trait: api.Lone, Name: "token"}:     "played call with 2 lone token",
		{When: api.Played, Verb: api.Call, Whom: api.Dyed, Count: 99, Suit: api.Water, Name: longName()}: "played call dyed 99 water abcdefghijklmnopqrst",
		{When: api.Broken, Verb: api.Put, Whom: api.Dyed, Count: -99, Suit: api.Void, Mark: api.Charge}:  "broken put dyed -99 void 4",
		{When: api.Always, Verb: api.Grant, Whom: api.Dyed, Suit: api.Earth, Trait: api.Guard}:           "always grant dyed earth guard",
		{When: api.Begun, Verb: api.Call, Whom: api.You, Count: 1, Name: "unit"}:                         "begun call you 1 unit",
		{When: api.Rather, Verb: api.Turned, Whom: api.Self}:                                             "rather turned self",
	}
}

func longName() string { return "abcdefghijklmnopqrst" }

// wantText is the text of a card that may be, whose parts are of partTexts.
func wantText(c api.Card) string {
	text := c.Name + " " + []string{"", "air", "earth", "fire", "water", "void", "gold"}[c.Suit]
	text += " " + []string{"", "unit", "spell", "relic"}[c.Kind] + " " + strconv.Itoa(c.Cost)
	if c.Kind == 1 {
		text += " " + strconv.Itoa(c.Power) + "/" + strconv.Itoa(c.Health)
	}
	if c.Token {
		text += " token"
	}
	for place, name := range []string{"fast", "guard", "venom", "lone", "drain", "mute", "fixed", "swift"} {
		if c.Traits>>place&1 == 1 {
			text += " +" + name
		}
	}
	for _, p := range c.Parts {
		text += " | " + partTexts()[p]
	}
	return text
}

// examples are texts, each with its card.
func examples() map[string]api.Card {
	return map[string]api.Card{
		"rock earth unit 1 1/1":                                     rock(),
		"rock earth unit 1 1/1 token +guard":                        {Name: "rock", Suit: api.Earth, Kind: api.Unit, Cost: 1, Power: 1, Health: 1, Traits: 2, Token: true},
		"golem earth unit 5 4/5 +guard | struck mend you 1":         {Name: "golem", Suit: api.Earth, Kind: api.Unit, Cost: 5, Power: 4, Health: 5, Traits: 2, Parts: []api.Part{of(api.Struck)}},
		"a air unit 0 0/1":                                          {Name: "a", Suit: api.Air, Kind: api.Unit, Health: 1},
		"token water unit 10 99/99 token":                           {Name: "token", Suit: api.Water, Kind: api.Unit, Cost: 10, Power: 99, Health: 99, Token: true},
		"z- void unit 9 10/20 +fast +swift":                         {Name: "z-", Suit: api.Void, Kind: api.Unit, Cost: 9, Power: 10, Health: 20, Traits: 1 | 128},
		"zap fire spell 3":                                          zap(),
		"zap fire spell 3 | played harm it 3":                       withParts(zap(), api.Part{When: api.Played, Verb: api.Harm, Whom: api.It, Count: 3}),
		"zap fire spell 0 +venom +lone | played break all":          {Name: "zap", Suit: api.Fire, Kind: api.Spell, Traits: 4 | 8, Parts: []api.Part{{When: api.Played, Verb: api.Break, Whom: api.All}}},
		"idol gold relic 2":                                         idol(),
		"idol gold relic 2 token +drain +mute +fixed":               {Name: "idol", Suit: api.Gold, Kind: api.Relic, Cost: 2, Traits: 16 | 32 | 64, Token: true},
		"unit gold relic 0 | begun call you 1 unit":                 {Name: "unit", Suit: api.Gold, Kind: api.Relic, Parts: []api.Part{{When: api.Begun, Verb: api.Call, Whom: api.You, Count: 1, Name: "unit"}}},
		"idol gold relic 2 | rather turned self | begun mend you 1": withParts(idol(), api.Part{When: api.Rather, Verb: api.Turned, Whom: api.Self}, of(api.Begun)),
	}
}

// longest is the card that may be with the longest text.
func longest() api.Card {
	calls := api.Part{When: api.Played, Verb: api.Call, Whom: api.Dyed, Count: 99, Suit: api.Water, Name: longName()}
	return api.Card{Name: longName(), Suit: api.Earth, Kind: api.Unit, Cost: 10, Power: 99, Health: 99, Traits: 255, Token: true, Parts: []api.Part{calls, calls, calls, calls}}
}

func wantPrint(t *testing.T, c api.Card, text string, e api.Errno) {
	t.Helper()
	if got, gotE := card.Print(c); got != text || gotE != e {
		t.Errorf("Print(%+v) = %q, %d, want %q, %d", c, got, gotE, text, e)
	}
}

func wantParse(t *testing.T, text string, c api.Card, e api.Errno) {
	t.Helper()
	if got, gotE := card.Parse(text); !reflect.DeepEqual(got, c) || gotE != e {
		t.Errorf("Parse(%.600q) = %+v, %d, want %+v, %d", text, got, gotE, c, e)
	}
}

func wantNoCard(t *testing.T, text string) {
	t.Helper()
	wantParse(t, text, api.Card{}, api.ErrCardText)
}

// P6.2

func TestPrintOfExamples(t *testing.T) {
	for text, c := range examples() {
		wantPrint(t, c, text, api.OK)
	}
}

func TestPrintOfEveryMixture(t *testing.T) {
	for x := range everyMixture {
		text := ""
		if x.want == api.OK {
			text = wantText(x.c)
		}
		if got, e := card.Print(x.c); got != text || e != x.want {
			t.Fatalf("Print(%+v) = %q, %d, want %q, %d", x.c, got, e, text, x.want)
		}
	}
}

func TestPrintOfEverySetOfTraits(t *testing.T) {
	for _, c := range ofEachKind() {
		for set := range api.Traits(256) {
			c.Traits = set
			wantPrint(t, c, wantText(c), api.OK)
		}
		c.Traits = 256
		wantPrint(t, c, "", api.ErrCard)
	}
}

func TestPrintOfNumbers(t *testing.T) {
	c := rock()
	for c.Cost = range 11 {
		wantPrint(t, c, "rock earth unit "+strconv.Itoa(c.Cost)+" 1/1", api.OK)
	}
	c.Cost = 0
	for c.Power = range 100 {
		for c.Health = 1; c.Health < 100; c.Health++ {
			wantPrint(t, c, "rock earth unit 0 "+strconv.Itoa(c.Power)+"/"+strconv.Itoa(c.Health), api.OK)
		}
	}
}

func TestPrintOfCardsThatMayNotBe(t *testing.T) {
	for _, c := range ofEachKind() {
		for want, parts := range badParts() {
			for _, bad := range parts {
				wantPrint(t, withParts(c, of(api.Played), bad), "", want)
			}
		}
		wantPrint(t, withParts(c, slices.Repeat([]api.Part{of(api.Played)}, 5)...), "", api.ErrLong)
		for _, c.Name = range badNames() {
			wantPrint(t, c, "", api.ErrName)
		}
	}
	wantPrint(t, api.Card{}, "", api.ErrName)
}

// P6.3

func TestParseOfExamples(t *testing.T) {
	for text, c := range examples() {
		wantParse(t, text, c, api.OK)
	}
}

func TestParseOfLongTexts(t *testing.T) {
	rockText := "rock earth unit 1 1/1"
	part := " | struck mend you 1"
	for _, length := range []int{511, 512} {
		wantNoCard(t, rockText+strings.Repeat(" ", length-len(rockText)))
		wantNoCard(t, strings.Repeat("a", length-len(rockText))+rockText)
		wantNoCard(t, strings.Repeat(" ", length))
		wantNoCard(t, strings.Repeat("|", length))
		wantNoCard(t, strings.Repeat(" | ", 200)[:length])
		wantNoCard(t, strings.Repeat("\xff", length))
		wantNoCard(t, (rockText + strings.Repeat(part, 30))[:length])
		wantNoCard(t, "rock earth unit "+strings.Repeat("0", length-21)+"1 1/1")
	}
	for _, length := range []int{513, 514, 1000, 1_000_000} {
		wantParse(t, rockText+strings.Repeat(" ", length-len(rockText)), api.Card{}, api.ErrLong)
		wantParse(t, rockText+strings.Repeat(part, length), api.Card{}, api.ErrLong)
		wantParse(t, strings.Repeat("a", length), api.Card{}, api.ErrLong)
		wantParse(t, strings.Repeat("\x00", length), api.Card{}, api.ErrLong)
	}
	// The limit is one of bytes: 256 letters of two bytes each are not too long, 257 are.
	wantNoCard(t, strings.Repeat("\u00e4", 256))
	wantParse(t, strings.Repeat("\u00e4", 257), api.Card{}, api.ErrLong)
}

func TestParseOfNoCard(t *testing.T) {
	for _, text := range []string{
		"", " ", "  ", "|", " | ", "-", "\x00", "rock", "rock ", "rock earth", "rock earth unit", "rock earth unit ", "rock earth unit 1", "rock earth unit 1 ", "rock earth spell", "earth unit 1 1/1", "rock unit 1 1/1", "rock earth 1 1/1", "rock earth unit 1/1", "1 1/1",
		"rock earth unit 01 1/1", "rock earth unit +1 1/1", "rock earth unit -1 1/1", "rock earth unit -0 1/1", "rock earth unit 1.0 1/1", "rock earth unit one 1/1", "rock earth unit  1/1", "rock earth unit 0x1 1/1", "rock earth unit 18446744073709551617 1/1",
		"rock earth unit 1 01/1", "rock earth unit 1 1/01", "rock earth unit 1 +1/1", "rock earth unit 1 1/+1", "rock earth unit 1 -0/1", "rock earth unit 1 1 /1", "rock earth unit 1 1/ 1", "rock earth unit 1 1 / 1", "rock earth unit 1 1/", "rock earth unit 1 /1", "rock earth unit 1 /", "rock earth unit 1 1", "rock earth unit 1 1/1/1", "rock earth unit 1 1//1", "rock earth unit 1 1|1", "rock earth unit 1 1/1 1/1", "rock earth unit 1 1/1 2/2", "rock earth unit 1 18446744073709551617/1",
		"rock  earth unit 1 1/1", "rock earth  unit 1 1/1", "rock earth unit  1 1/1", "rock earth unit 1  1/1", " rock earth unit 1 1/1", "rock earth unit 1 1/1 ", "rock\tearth unit 1 1/1", "rock earth unit 1 1/1\n", "rock\u00a0earth unit 1 1/1", "rock earth unit 1 1/1  token", "rock earth unit 1 1/1 token ",
		"Rock earth unit 1 1/1", "rock Earth unit 1 1/1", "rock earth Unit 1 1/1", "rock EARTH unit 1 1/1", "rock earth unit 1 1/1 Token", "rock earth unit 1 1/1 +Guard",
		"rock stone unit 1 1/1", "rock 2 unit 1 1/1", "rock eart unit 1 1/1", "rock earthy unit 1 1/1", "rock earth units 1 1/1", "rock earth uni 1 1/1", "rock earth 1 1 1/1", "rock earth card 1 1/1", "rock earth  1 1/1",
		"earth rock unit 1 1/1", "rock unit earth 1 1/1", "rock earth 1 unit 1/1", "rock earth unit 1/1 1", "unit rock earth 1 1/1",
		"rock earth unit 1 token 1/1", "rock earth unit 1 1/1 token token", "rock earth unit 1 1/1 tokens", "rock earth unit token 1 1/1", "token rock earth unit 1 1/1", "rock earth unit 1 1/1 +token", "rock earth unit 1 1/1 +guard token", "rock earth unit 1 +guard 1/1", "rock earth unit 1 token",
		"rock earth unit 1 1/1 guard", "rock earth unit 1 1/1 +", "rock earth unit 1 1/1 ++guard", "rock earth unit 1 1/1 + guard", "rock earth unit 1 1/1 -guard", "rock earth unit 1 1/1 +brave", "rock earth unit 1 1/1 +2", "rock earth unit 1 1/1 +guar", "rock earth unit 1 1/1 +guards", "rock earth unit 1 1/1 +fast+guard", "rock earth unit 1 1/1 +fast guard", "rock earth unit 1 1/1 -", "rock earth unit 1 1/1 +-",
		"rock earth unit 1 1/1 +guard +guard", "rock earth unit 1 1/1 +guard +fast", "rock earth unit 1 1/1 +fast +guard +fast", "rock earth unit 1 1/1 +swift +fast", "zap fire spell 3 +lone +venom",
		"rock earth unit 1 1/1 |", "rock earth unit 1 1/1 | ", "rock earth unit 1 1/1|", "rock earth unit 1 1/1 |  ", "rock earth unit 1 1/1 | |", "rock earth unit 1 1/1 | | struck mend you 1", "rock earth unit 1 1/1 | struck mend you 1 |", "rock earth unit 1 1/1 | struck mend you 1 | ", "| struck mend you 1", " | struck mend you 1", "struck mend you 1",
		"rock earth unit 1 1/1|struck mend you 1", "rock earth unit 1 1/1 |struck mend you 1", "rock earth unit 1 1/1| struck mend you 1", "rock earth unit 1 1/1 |  struck mend you 1", "rock earth unit 1 1/1  | struck mend you 1", "rock earth unit 1 1/1 | struck mend you 1 ", "rock earth unit 1 1/1 struck mend you 1", "rock earth unit 1 1/1 / struck mend you 1", "rock earth unit 1 1/1 || struck mend you 1",
		"rock earth unit 1 1/1 | struck mend you 1 struck mend you 1", "rock earth unit 1 1/1 | struck mend you 1 token", "rock earth unit 1 1/1 | struck mend you 1 +guard", "rock earth unit 1 1/1 | token", "rock earth unit 1 1/1 | +guard", "rock earth unit 1 1/1 | struck mend you 1 | +guard", "rock earth unit 1 1/1 | struck mend you 01", "rock earth unit 1 1/1 | Struck mend you 1", "rock earth unit 1 1/1 | struck mend you", "rock earth unit 1 1/1 | rock earth unit 1 1/1",
		"struck mend you 1 | rock earth unit 1 1/1", "rock earth unit 1 | struck mend you 1 | 1/1",
	} {
		wantNoCard(t, text)
	}
}

func TestParseOfTextsOfCardsThatMayNotBe(t *testing.T) {
	for _, text := range []string{
		"-rock earth unit 1 1/1", "- earth unit 1 1/1", " earth unit 1 1/1", "rock1 earth unit 1 1/1", "abcdefghijklmnopqrstu earth unit 1 1/1",
		"rock earth unit 11 1/1", "rock earth unit 100 1/1", "rock earth unit 1 100/1", "rock earth unit 1 1/100", "rock earth unit 1 -1/1", "rock earth unit 1 1/-1", "rock earth unit 1 1/0", "rock earth unit 1 0/0", "rock earth unit 1 0/0 token",
		"rock earth spell 1 1/1", "rock earth relic 1 1/1", "rock earth spell 1 0/0", "rock earth relic 1 0/0", "rock earth relic 1 0/1", "rock earth relic 1 1/0", "rock earth spell 11", "rock earth relic -1",
		"rock earth spell 1 token", "rock earth spell 1 token | played mend you 1",
		"zap fire spell 3 | broken mend you 1", "zap fire spell 3 | begun mend you 1", "zap fire spell 3 | struck mend you 1", "zap fire spell 3 | always raise dyed -1 fire", "zap fire spell 3 | rather less yours 1", "zap fire spell 3 | played mend you 1 | broken mend you 1",
		"idol gold relic 2 | struck mend you 1", "idol gold relic 2 | played mend you 1 | struck mend you 1",
		"rock earth unit 1 1/1 | played mend you 0", "rock earth unit 1 1/1 | always mend you 1", "rock earth unit 1 1/1 | begun harm it 1", "rock earth unit 1 1/1 | played break foe", "rock earth unit 1 1/1 | played call you 1 Wisp", "rock earth unit 1 1/1 | always dye dyed fire",
		"rock earth unit 1 1/1 | played mend you 1 | played mend you 1 | played mend you 1 | played mend you 1 | played mend you 1",
		"zap fire spell 3 | played mend you 1 | played mend you 1 | played mend you 1 | played mend you 1 | played mend you 1",
	} {
		wantNoCard(t, text)
	}
	wantParse(t, "rock earth unit 1 1/1 | played mend you 1 | played mend you 1 | played mend you 1 | played mend you 1", withParts(rock(), of(1), of(1), of(1), of(1)), api.OK)
}

// fits tells whether an answer is what a text that differs a little from one of a card may be answered with: no card, or the one of just that text.
func fits(text string, c api.Card, e api.Errno) bool {
	if e == api.OK {
		back, backE := card.Print(c)
		return backE == api.OK && back == text && card.Check(c) == api.OK
	}
	return e == api.ErrCardText && reflect.DeepEqual(c, api.Card{})
}

func TestParseOfEachWordAtEachPlace(t *testing.T) {
	words := []string{"", "|", "/", "+", "-", "token", "+fast", "+guard", "+swift", "unit", "spell", "relic", "earth", "gold", "rock", "Rock", "0", "1", "10", "11", "01", "-1", "1/1", "0/1", "1/0", "99/99", "100/1", "1/1/1", "played", "mend", "you", "struck"}
	taken := 0
	for text, c := range examples() {
		pieces := strings.Split(text, " ")
		for place := range len(pieces) + 1 {
			for _, word := range words {
				changed := []string{strings.Join(slices.Insert(slices.Clone(pieces), place, word), " ")}
				if place < len(pieces) {
					changed = append(changed, strings.Join(slices.Delete(slices.Clone(pieces), place, place+1), " "), strings.Join(slices.Replace(slices.Clone(pieces), place, place+1, word), " "))
				}
				for _, other := range changed {
					got, e := card.Parse(other)
					if !fits(other, got, e) || card.Same(got, c) != (other == text) {
						t.Fatalf("Parse(%q) = %+v, %d", other, got, e)
					}
					if e == api.OK {
						taken++
					}
				}
			}
		}
	}
	if taken < 100 {
		t.Errorf("%d texts were taken: too few", taken)
	}
}

func TestParseOfTextsWithAByteChanged(t *testing.T) {
	for text, c := range examples() {
		for place := range len(text) {
			for _, b := range []byte("\x00 -+/|0129:AZaez{\x7f\x80\xff") {
				for _, other := range []string{
					text[:place] + string([]byte{b}) + text[place+1:],
					text[:place] + string([]byte{b}) + text[place:],
					text[:place] + text[place+1:],
				} {
					got, e := card.Parse(other)
					if !fits(other, got, e) || card.Same(got, c) != (other == text) {
						t.Fatalf("Parse(%q) = %+v, %d", other, got, e)
					}
				}
			}
		}
	}
}

// Two answers share no memory, and the spare room of their parts is empty.
func TestParseAnswersInMemoryOfItsOwn(t *testing.T) {
	text := "idol gold relic 2 | rather turned self | begun mend you 1 | played break all"
	one, _ := card.Parse(text)
	two, e := card.Parse(text)
	if e != api.OK || len(one.Parts) != 3 {
		t.Fatalf("Parse(%q) = %+v, %d", text, two, e)
	}
	for _, p := range one.Parts[3:cap(one.Parts)] {
		if p != (api.Part{}) {
			t.Errorf("the spare room has %+v", p)
		}
	}
	one.Parts[0], one.Parts[2] = api.Part{}, api.Part{}
	_ = append(one.Parts, of(api.Struck))
	wantPrint(t, two, text, api.OK)
	wantParse(t, text, two, api.OK)
}

// P6.5

// everyGood goes over cards of each kind that may be: each mixture of some names, suits, numbers and traits with parts of each When that the kind may have.
func everyGood(yield func(api.Card) bool) {
	lists := [][][]api.Part{1: goodParts(1), 2: goodParts(2), 3: goodParts(3)}
	for _, c := range goodHeads() {
		for _, c.Parts = range lists[c.Kind] {
			if !yield(c) {
				return
			}
		}
	}
}

func goodHeads() []api.Card {
	all := spread([]api.Card{{}}, []string{"token", longName()}, func(c *api.Card, s string) { c.Name = s })
	all = spread(all, []api.Suit{1, 2, 6}, func(c *api.Card, s api.Suit) { c.Suit = s })
	all = spread(all, []int{0, 1, 10}, func(c *api.Card, n int) { c.Cost = n })
	all = spread(all, []api.Traits{0, 1, 128, 2 | 16, 255}, func(c *api.Card, set api.Traits) { c.Traits = set })
	units := spread(all, [][2]int{{0, 1}, {1, 1}, {11, 1}, {1, 11}, {99, 99}}, func(c *api.Card, n [2]int) { c.Kind, c.Power, c.Health = 1, n[0], n[1] })
	spells := spread(all, []api.Kind{2}, func(c *api.Card, k api.Kind) { c.Kind = k })
	relics := spread(all, []api.Kind{3}, func(c *api.Card, k api.Kind) { c.Kind = k })
	tokens := spread(append(units, relics...), []bool{false, true}, func(c *api.Card, is bool) { c.Token = is })
	return append(tokens, spells...)
}

// goodParts has lists of parts that a card of a kind may have: none; each one alone; some of two, in both orders; four.
func goodParts(k api.Kind) [][]api.Part {
	var fitting []api.Part
	for p := range partTexts() {
		if slices.Contains(mayHave()[k], p.When) {
			fitting = append(fitting, p)
		}
	}
	slices.SortFunc(fitting, func(a, b api.Part) int { return strings.Compare(partTexts()[a], partTexts()[b]) })
	lists := [][]api.Part{nil, longest().Parts, fitting[:4]}
	for place, p := range fitting {
		next := fitting[(place+1)%len(fitting)]
		lists = append(lists, []api.Part{p}, []api.Part{p, next}, []api.Part{next, p}, []api.Part{p, p})
	}
	return lists
}

func TestThereAndBackOfCardsThatMayBe(t *testing.T) {
	seen := map[string]bool{}
	for c := range everyGood {
		text, e := card.Print(c)
		if e != api.OK || len(text) > 512 || text != wantText(c) {
			t.Fatalf("Print(%+v) = %q, %d, want %q", c, text, e, wantText(c))
		}
		if seen[text] {
			t.Fatalf("two cards have one text: %q", text)
		}
		seen[text] = true
		back, e := card.Parse(text)
		if e != api.OK || !reflect.DeepEqual(back, c) || !card.Same(back, c) {
			t.Fatalf("Parse(%q) = %+v, %d, want %+v", text, back, e, c)
		}
	}
	if len(seen) < 10_000 {
		t.Errorf("%d cards: too few were looked at", len(seen))
	}
}

func TestTheLongestText(t *testing.T) {
	text, e := card.Print(longest())
	if e != api.OK || len(text) != 295 || text != wantText(longest()) {
		t.Fatalf("Print(%+v) = %q, %d, of %d bytes", longest(), text, e, len(text))
	}
	wantParse(t, text, longest(), api.OK)
}

func TestManyAtOnce(t *testing.T) {
	var group sync.WaitGroup
	for range 8 {
		group.Go(func() {
			for range 20 {
				for text, c := range examples() {
					got, e := card.Print(c)
					back, backE := card.Parse(text)
					if got != text || e != api.OK || !card.Same(card.Copy(back), c) || backE != api.OK {
						t.Errorf("%q: Print = %q, %d; Parse = %+v, %d", text, got, e, back, backE)
					}
				}
			}
		})
	}
	group.Wait()
}
