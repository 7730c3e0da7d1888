package effect_test

import (
	"slices"
	"strings"
	"sync"
	"testing"

	"gambit/api"
	"gambit/effect"
)

// examples are texts, each with its part.
func examples() map[string]api.Part {
	return map[string]api.Part{
		"played harm it 3":                          {When: api.Played, Verb: api.Harm, Whom: api.It, Count: 3},
		"broken mend you 99":                        {When: api.Broken, Verb: api.Mend, Whom: api.You, Count: 99},
		"begun draw foe 1":                          {When: api.Begun, Verb: api.Draw, Whom: api.Foe, Count: 1},
		"struck drop theirs 10":                     {When: api.Struck, Verb: api.Drop, Whom: api.Theirs, Count: 10},
		"begun gain you -9":                         {When: api.Begun, Verb: api.Gain, Whom: api.You, Count: -9},
		"played break all":                          {When: api.Played, Verb: api.Break, Whom: api.All},
		"played call you 2 wisp":                    {When: api.Played, Verb: api.Call, Whom: api.You, Count: 2, Name: "wisp"},
		"struck call dyed 1 gold a-":                {When: api.Struck, Verb: api.Call, Whom: api.Dyed, Count: 1, Suit: api.Gold, Name: "a-"},
		"broken call with 1 drain drain":            {When: api.Broken, Verb: api.Call, Whom: api.With, Count: 1, Trait: api.Drain, Name: "drain"},
		"struck back rest":                          {When: api.Struck, Verb: api.Back, Whom: api.Rest},
		"begun put self 1 3":                        {When: api.Begun, Verb: api.Put, Whom: api.Self, Count: 1, Mark: api.Shield},
		"played put dyed -99 void 4":                {When: api.Played, Verb: api.Put, Whom: api.Dyed, Count: -99, Suit: api.Void, Mark: api.Charge},
		"broken put with 99 mute 1":                 {When: api.Broken, Verb: api.Put, Whom: api.With, Count: 99, Trait: api.Mute, Mark: api.Up},
		"always seize theirs":                       {When: api.Always, Verb: api.Seize, Whom: api.Theirs},
		"always dye all water":                      {When: api.Always, Verb: api.Dye, Whom: api.All, Suit: api.Water},
		"always dye with air swift":                 {When: api.Always, Verb: api.Dye, Whom: api.With, Suit: api.Air, Trait: api.Swift},
		"always grant with fast":                    {When: api.Always, Verb: api.Grant, Whom: api.With, Trait: api.Fast},
		"always grant dyed earth guard":             {When: api.Always, Verb: api.Grant, Whom: api.Dyed, Suit: api.Earth, Trait: api.Guard},
		"always strip yours venom":                  {When: api.Always, Verb: api.Strip, Whom: api.Yours, Trait: api.Venom},
		"always base self 0":                        {When: api.Always, Verb: api.Base, Whom: api.Self},
		"always base with 7 lone":                   {When: api.Always, Verb: api.Base, Whom: api.With, Count: 7, Trait: api.Lone},
		"always raise dyed -1 fire":                 {When: api.Always, Verb: api.Raise, Whom: api.Dyed, Count: -1, Suit: api.Fire},
		"rather less yours 1":                       {When: api.Rather, Verb: api.Less, Whom: api.Yours, Count: 1},
		"rather twice foe":                          {When: api.Rather, Verb: api.Twice, Whom: api.Foe},
		"rather turned self":                        {When: api.Rather, Verb: api.Turned, Whom: api.Self},
		"rather instead with 12 fixed":              {When: api.Rather, Verb: api.Instead, Whom: api.With, Count: 12, Trait: api.Fixed},
		"played call it 99 abcdefghijklmnopqrst":    {When: api.Played, Verb: api.Call, Whom: api.It, Count: 99, Name: "abcdefghijklmnopqrst"},
		"struck call theirs 99 z-----------------z": {When: api.Struck, Verb: api.Call, Whom: api.Theirs, Count: 99, Name: "z-----------------z"},
	}
}

func wantPrint(t *testing.T, p api.Part, text string, e api.Errno) {
	t.Helper()
	if got, gotE := effect.Print(p); got != text || gotE != e {
		t.Errorf("Print(%+v) = %q, %d, want %q, %d", p, got, gotE, text, e)
	}
}

func wantParse(t *testing.T, text string, p api.Part, e api.Errno) {
	t.Helper()
	if got, gotE := effect.Parse(text); got != p || gotE != e {
		t.Errorf("Parse(%.100q) = %+v, %d, want %+v, %d", text, got, gotE, p, e)
	}
}

func wantNoPart(t *testing.T, text string) {
	t.Helper()
	wantParse(t, text, api.Part{}, api.ErrEffect)
}

// P5.3

func TestPrintOfExamples(t *testing.T) {
	for text, p := range examples() {
		wantPrint(t, p, text, api.OK)
	}
}

func TestPrintOfEveryPartThatMayBe(t *testing.T) {
	for p := range everyGood {
		if got, e := effect.Print(p); got != wantText(p) || e != api.OK {
			t.Fatalf("Print(%+v) = %q, %d, want %q, OK", p, got, e, wantText(p))
		}
	}
}

func TestPrintOfPartsThatMayNotBe(t *testing.T) {
	for p := range everyHead {
		if want := wantHeads(p); want != api.OK {
			wantPrint(t, p, "", want)
		}
	}
	kinds := [3][]uint8{{0, 1, 7}, {0, 1, 9}, {0, 1, 5}}
	for _, head := range goodHeads() {
		for p := range spread(head, []int{-100, -1, 0, 1, 100}, kinds, []string{"", "wisp", "Wisp"}) {
			if want := wantFields(p, verbs()[p.Verb]); want != api.OK {
				wantPrint(t, p, "", want)
			}
		}
	}
	calls := api.Part{When: api.Played, Verb: api.Call, Whom: api.You, Count: 1}
	for _, calls.Name = range badNames() {
		wantPrint(t, calls, "", api.ErrName)
	}
}

// P5.4

func TestParseOfExamples(t *testing.T) {
	for text, p := range examples() {
		wantParse(t, text, p, api.OK)
	}
}

func TestParseOfLongTexts(t *testing.T) {
	text := "played call you 1 wisp"
	for _, length := range []int{79, 80} {
		wantNoPart(t, text+strings.Repeat("s", length-len(text)))
		wantNoPart(t, text+strings.Repeat(" ", length-len(text)))
		wantNoPart(t, strings.Repeat(" ", length))
		wantNoPart(t, strings.Repeat("x", length))
		wantNoPart(t, strings.Repeat("\xff", length))
		wantNoPart(t, "played harm it "+strings.Repeat("0", length-16)+"3")
	}
	for _, length := range []int{81, 82, 1000, 1_000_000} {
		wantParse(t, text+strings.Repeat("s", length-len(text)), api.Part{}, api.ErrLong)
		wantParse(t, text+strings.Repeat(" ", length-len(text)), api.Part{}, api.ErrLong)
		wantParse(t, strings.Repeat(" ", length), api.Part{}, api.ErrLong)
		wantParse(t, strings.Repeat("\x00", length), api.Part{}, api.ErrLong)
	}
	// The limit is one of bytes: 40 letters of two bytes each are not too long, 41 are.
	wantNoPart(t, strings.Repeat("\u00e4", 40))
	wantParse(t, strings.Repeat("\u00e4", 41), api.Part{}, api.ErrLong)
}

func TestParseOfNoPart(t *testing.T) {
	for _, text := range []string{
		"", " ", "  ", "-", "\x00", "played", "played ", "played harm", "played harm ", "played harm it", "played harm it ", "3",
		"harm played it 3", "played it harm 3", "harm it 3", "played 3 harm it", "it harm played 3",
		"played  harm it 3", "played harm  it 3", "played harm it  3", " played harm it 3", "played harm it 3 ", "played\tharm it 3", "played harm it 3\n", "played\u00a0harm it 3",
		"played harm it 03", "played harm it +3", "played harm it 3.0", "played harm it 0x3", "played harm it 3_0", "played harm it three", "played harm it ", "played harm it -", "played harm it 3e0",
		"Played harm it 3", "played Harm it 3", "played harm It 3", "PLAYED HARM IT 3", "playe harm it 3", "played har it 3", "played harm i 3", "playedd harm it 3", "1 1 3 3",
		"played harm it 3 3", "played harm it 3 fire", "played harm it 3 fast", "played harm it 3 wisp", "played harm it fire", "played break it 1", "played break it 0", "rather turned self 0",
		"begun put self 1", "begun put self 3 ", "begun put self 1 3 3", "begun put self 1 up", "begun put self 1 03", "begun put self 1 +3", "begun put self 1 0", "begun put self 1 5", "begun put self 1 259", "begun put self 1 -1", "begun put self 1 3 wisp", "begun put self -0 3", "begun put self 1 shield",
		"always raise dyed -01 fire", "always raise dyed fire -1", "always raise dyed -1", "always raise dyed fire", "always raise dyed -1 fast", "always raise dyed -1 Fire", "always raise dyed -1 3", "always raise dyed --1 fire", "always raise dyed - 1 fire",
		"always base self -0", "always base self 00", "always base self +0", "always base self",
		"always grant with", "always grant with fast fast", "always grant with fire", "always grant with 1", "always grant with Fast", "always grant dyed guard earth", "always grant dyed guard", "always grant dyed earth",
		"always dye dyed fire", "always dye dyed fire fire", "always dye all", "always dye all 3", "always dye all fire 1",
		"played call you 2", "played call you 2 ", "played call you wisp", "played call you wisp 2", "played call you 2 Wisp", "played call you 2 -wisp", "played call you 2 wisp wisp", "played call you 2 will o wisp", "played call you 2 abcdefghijklmnopqrstu", "played call you 2 3",
	} {
		wantNoPart(t, text)
	}
}

func TestParseOfTextsOfPartsThatMayNotBe(t *testing.T) {
	for _, text := range []string{
		"always harm you 1", "rather harm you 1", "played raise all 1", "always less yours 1", "rather raise all 1", "begun twice foe",
		"broken harm it 1", "begun harm it 1", "struck mend it 1", "always raise it 1", "rather twice it",
		"played break foe", "played break you", "struck back you", "begun put foe 1 1", "always raise you 1", "always seize foe",
		"played harm it 0", "played harm it -1", "played harm it 100", "played harm it 18446744073709551619", "played harm it -18446744073709551613", "begun gain you 10", "begun gain you -10", "begun gain you 0",
		"begun put self 0 1", "begun put self 100 1", "begun put self -100 1", "always raise all 0", "always raise all 100", "always raise all -100", "always base all -1", "always base all 100", "rather less you 0", "rather instead you 100",
	} {
		wantNoPart(t, text)
	}
}

// words are all that stand in texts, and some that do not.
func words() []string {
	list := slices.Concat(whenWords()[1:], whomWords()[1:], suitWords()[1:], traitWords()[1:])
	for _, f := range verbs() {
		list = append(list, f.word)
	}
	return append(list, "0", "1", "-1", "4", "5", "9", "10", "-9", "-10", "99", "-99", "100", "01", "+1", "wisp", "-", "", "Wisp", "x")
}

// told are the texts of all parts that may be, a few names among them, with their parts.
func told() map[string]api.Part {
	all := map[string]api.Part{}
	for p := range everyGood {
		all[wantText(p)] = p
	}
	return all
}

// wantOf holds Parse of a text without a name of its own against what is told.
func wantOf(t *testing.T, all map[string]api.Part, text string) {
	t.Helper()
	if p, ok := all[text]; ok {
		wantParse(t, text, p, api.OK)
	} else {
		wantNoPart(t, text)
	}
}

func TestParseOfEachWordAtEachPlace(t *testing.T) {
	all := told()
	for text := range examples() {
		if strings.Contains(text, " call ") {
			continue // its name may be any word
		}
		pieces := strings.Split(text, " ")
		for place := range len(pieces) + 1 {
			for _, word := range words() {
				if place < len(pieces) {
					changed := slices.Clone(pieces)
					changed[place] = word
					if word != "call" {
						wantOf(t, all, strings.Join(changed, " "))
					}
				}
				wantOf(t, all, strings.Join(slices.Insert(slices.Clone(pieces), place, word), " "))
			}
			if place < len(pieces) {
				wantOf(t, all, strings.Join(slices.Delete(slices.Clone(pieces), place, place+1), " "))
			}
		}
	}
}

// A text that differs in a byte is another part's, as Print tells it, or none.
func TestParseOfTextsWithAByteChanged(t *testing.T) {
	for text, p := range examples() {
		for place := range len(text) {
			for _, b := range []byte("\x00 -+/0129:AZaez{\x7f\x80\xff") {
				for _, changed := range []string{
					text[:place] + string([]byte{b}) + text[place+1:],
					text[:place] + string([]byte{b}) + text[place:],
					text[:place] + text[place+1:],
				} {
					got, e := effect.Parse(changed)
					switch {
					case e == api.ErrEffect && got == api.Part{} && changed != text:
					case e == api.OK && effect.Check(got) == api.OK && wantText(got) == changed && (got == p) == (changed == text):
					default:
						t.Fatalf("Parse(%q) = %+v, %d", changed, got, e)
					}
				}
			}
		}
	}
}

// P5.5

func TestThereAndBackOfEveryPartThatMayBe(t *testing.T) {
	seen := map[string]api.Part{}
	for p := range everyGood {
		text, e := effect.Print(p)
		if e != api.OK || len(text) > 80 {
			t.Fatalf("Print(%+v) = %q, %d: an error, or more than 80 bytes", p, text, e)
		}
		if other, there := seen[text]; there {
			t.Fatalf("%+v and %+v have one text: %q", p, other, text)
		}
		seen[text] = p
		if back, e := effect.Parse(text); back != p || e != api.OK {
			t.Fatalf("Parse(%q) = %+v, %d, want %+v", text, back, e, p)
		}
	}
	if len(seen) < 100_000 {
		t.Errorf("%d parts may be: too few were looked at", len(seen))
	}
}

func TestManyAtOnce(t *testing.T) {
	var group sync.WaitGroup
	for range 8 {
		group.Go(func() {
			for range 20 {
				for text, p := range examples() {
					got, e := effect.Print(p)
					back, backE := effect.Parse(text)
					if got != text || e != api.OK || back != p || backE != api.OK {
						t.Errorf("%q: Print = %q, %d; Parse = %+v, %d", text, got, e, back, backE)
					}
				}
			}
		})
	}
	group.Wait()
}
