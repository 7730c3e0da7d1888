package trait_test

import (
	"math"
	"slices"
	"strings"
	"sync"
	"testing"

	"gambit/api"
	"gambit/start"
	"gambit/suit"
	"gambit/trait"
)

// facts is what the document says of a trait.
type facts struct {
	name string
	home api.Suit
	text string
}

func wanted() map[api.Trait]facts {
	return map[api.Trait]facts{
		api.Fast:  {"fast", api.Air, "fast: may strike on the turn on which it came (air)"},
		api.Guard: {"guard", api.Earth, "guard: is struck ahead of all that is no guard (earth)"},
		api.Venom: {"venom", api.Fire, "venom: whatever it harms breaks (fire)"},
		api.Lone:  {"lone", api.Water, "lone: cannot be meant by the foe (water)"},
		api.Drain: {"drain", api.Water, "drain: what it harms mends its holder (water)"},
		api.Mute:  {"mute", api.Void, "mute: its card's parts count for nothing (void)"},
		api.Fixed: {"fixed", api.Gold, "fixed: cannot strike (gold)"},
		api.Swift: {"swift", api.Air, "swift: strikes a second time each turn (air)"},
	}
}

func wantAll() []api.Trait { return []api.Trait{1, 2, 3, 4, 5, 6, 7, 8} }

func wantNames() []string {
	return []string{"fast", "guard", "venom", "lone", "drain", "mute", "fixed", "swift"}
}

// wantBits has at each number that is a trait its bit, and 0 at all others.
func wantBits() [math.MaxUint8 + 1]api.Traits {
	return [math.MaxUint8 + 1]api.Traits{1: 1, 2: 2, 3: 4, 4: 8, 5: 16, 6: 32, 7: 64, 8: 128}
}

// numbers are all that a trait may be handed as.
func numbers() []api.Trait {
	var list []api.Trait
	for n := range math.MaxUint8 + 1 {
		list = append(list, api.Trait(n))
	}
	return list
}

// noTraits are all numbers that are no trait.
func noTraits() []api.Trait {
	return slices.DeleteFunc(numbers(), func(n api.Trait) bool { return n >= 1 && n <= 8 })
}

// everySet is every number that a set may be handed as, those with other bits than the eight's too.
func everySet(yield func(api.Traits) bool) {
	for n := range math.MaxUint16 + 1 {
		if !yield(api.Traits(n)) {
			return
		}
	}
}

// wantList are the traits of a set.
func wantList(set api.Traits) []api.Trait {
	var list []api.Trait
	bits := wantBits()
	for _, x := range wantAll() {
		if set&bits[x] != 0 {
			list = append(list, x)
		}
	}
	return list
}

// wantText is the text of a set.
func wantText(set api.Traits) string {
	text := ""
	for _, x := range wantList(set) {
		text += " " + wantNames()[x-1]
	}
	if text == "" {
		return "-"
	}
	return text[1:]
}

// P4.1

func TestNameHomeAndTextOfEachTrait(t *testing.T) {
	for x, want := range wanted() {
		if got := trait.Name(x); got != want.name {
			t.Errorf("Name(%d) = %q, want %q", x, got, want.name)
		}
		if got := trait.Home(x); got != want.home {
			t.Errorf("Home(%d) = %d, want %d", x, got, want.home)
		}
		if got := trait.Text(x); got != want.text {
			t.Errorf("Text(%d) = %q, want %q", x, got, want.text)
		}
	}
}

func TestNameHomeAndTextOfNoTrait(t *testing.T) {
	for _, x := range noTraits() {
		if name, home, text := trait.Name(x), trait.Home(x), trait.Text(x); name != "" || home != 0 || text != "" {
			t.Errorf("Name, Home, Text of %d = %q, %d, %q, want none", x, name, home, text)
		}
	}
}

func TestTextIsMadeOfTheNames(t *testing.T) {
	for x := range wanted() {
		text := trait.Text(x)
		if ahead := trait.Name(x) + ": "; !strings.HasPrefix(text, ahead) {
			t.Errorf("Text(%d) = %q does not begin with %q", x, text, ahead)
		}
		if behind := " (" + suit.Name(trait.Home(x)) + ")"; !strings.HasSuffix(text, behind) {
			t.Errorf("Text(%d) = %q does not end with %q", x, text, behind)
		}
	}
}

func TestOfEachName(t *testing.T) {
	for want, f := range wanted() {
		if x, ok := trait.Of(f.name); x != want || !ok {
			t.Errorf("Of(%q) = %d, %v, want %d, true", f.name, x, ok, want)
		}
	}
}

// noNames are texts that are no trait's name, though some are near to one.
func noNames() []string {
	list := []string{"", "-", " ", "\x00", "8", "air", "x", "fas\xff", "fast\x00", "fastfast", "fast swift", "fast\tswift", strings.Repeat("fast", 1000)}
	for _, name := range wantNames() {
		capital := strings.ToUpper(name[:1]) + name[1:]
		list = append(list, capital, strings.ToUpper(name), name[1:], name[:len(name)-1], name+"s", " "+name, name+" ", name+":", name+"\n")
	}
	return list
}

func TestOfNoName(t *testing.T) {
	for _, name := range noNames() {
		if x, ok := trait.Of(name); x != 0 || ok {
			t.Errorf("Of(%q) = %d, %v, want 0, false", name, x, ok)
		}
	}
}

// P4.2

func TestHasWithWithoutOfEveryNumberInEverySet(t *testing.T) {
	bits, all := wantBits(), numbers()
	for set := range everySet {
		for _, x := range all {
			if got, want := trait.Has(set, x), set&bits[x] != 0; got != want {
				t.Fatalf("Has(%d, %d) = %v, want %v", set, x, got, want)
			}
			if got, want := trait.With(set, x), set|bits[x]; got != want {
				t.Fatalf("With(%d, %d) = %d, want %d", set, x, got, want)
			}
			if got, want := trait.Without(set, x), set&^bits[x]; got != want {
				t.Fatalf("Without(%d, %d) = %d, want %d", set, x, got, want)
			}
		}
	}
}

func TestHasOfNumbersWhoseBitIsNoTraits(t *testing.T) {
	for _, x := range noTraits() {
		for _, set := range []api.Traits{0, 255, 256, 0xff00, 0xffff} {
			if trait.Has(set, x) {
				t.Errorf("Has(%d, %d) = true", set, x)
			}
			if with, without := trait.With(set, x), trait.Without(set, x); with != set || without != set {
				t.Errorf("With, Without of %d, %d = %d, %d, want the set itself", set, x, with, without)
			}
		}
	}
}

func TestWithAndWithoutInSmall(t *testing.T) {
	rows := []struct {
		what      string
		got, want api.Traits
	}{
		{"With(0, Fast)", trait.With(0, api.Fast), 1},
		{"With(1, Fast)", trait.With(1, api.Fast), 1},
		{"With(0, Swift)", trait.With(0, api.Swift), 128},
		{"With(256, Fast)", trait.With(256, api.Fast), 257},
		{"With(0, 9)", trait.With(0, 9), 0},
		{"With(0, 0)", trait.With(0, 0), 0},
		{"Without(3, Fast)", trait.Without(3, api.Fast), 2},
		{"Without(2, Fast)", trait.Without(2, api.Fast), 2},
		{"Without(0xffff, Swift)", trait.Without(0xffff, api.Swift), 0xff7f},
		{"Without(256, 9)", trait.Without(256, 9), 256},
		{"Without(0xffff, 0)", trait.Without(0xffff, 0), 0xffff},
	}
	for _, r := range rows {
		if r.got != r.want {
			t.Errorf("%s = %d, want %d", r.what, r.got, r.want)
		}
	}
}

func TestListInSmall(t *testing.T) {
	rows := []struct {
		set  api.Traits
		want []api.Trait
	}{
		{0, nil},
		{1, []api.Trait{api.Fast}},
		{128, []api.Trait{api.Swift}},
		{129, []api.Trait{api.Fast, api.Swift}},
		{255, wantAll()},
		{256, nil},
		{0xff00, nil},
		{0xff81, []api.Trait{api.Fast, api.Swift}},
		{0xffff, wantAll()},
	}
	for _, r := range rows {
		if got := trait.List(r.set); !slices.Equal(got, r.want) {
			t.Errorf("List(%d) = %v, want %v", r.set, got, r.want)
		}
	}
}

func TestListAndCheckOfEverySet(t *testing.T) {
	for set := range everySet {
		if got, want := trait.List(set), wantList(set); !slices.Equal(got, want) {
			t.Fatalf("List(%d) = %v, want %v", set, got, want)
		}
		if got, want := trait.Check(set), set <= 255; got != want {
			t.Fatalf("Check(%d) = %v, want %v", set, got, want)
		}
	}
}

// Rule 4

func TestListIsNewMemory(t *testing.T) {
	for _, set := range []api.Traits{0, 129, 255} {
		want := wantList(set)
		one, two := trait.List(set), trait.List(set)
		clear(one[:cap(one)])
		_ = append(one, api.Mute)
		for i, x := range two[len(two):cap(two)] {
			if x != 0 {
				t.Errorf("List(%d): the spare room holds %d at %d", set, x, i)
			}
		}
		if !slices.Equal(two, want) || !slices.Equal(trait.List(set), want) {
			t.Errorf("List(%d) changed with another list: %v, %v, want %v", set, two, trait.List(set), want)
		}
	}
}

// P4.3

func TestPrintInSmall(t *testing.T) {
	rows := map[api.Traits]string{
		0: "-", 256: "-", 0xff00: "-",
		1: "fast", 128: "swift", 129: "fast swift", 0xff81: "fast swift",
		2 + 4 + 32: "guard venom mute",
		255:        "fast guard venom lone drain mute fixed swift",
		0xffff:     "fast guard venom lone drain mute fixed swift",
	}
	for set, want := range rows {
		if got := trait.Print(set); got != want {
			t.Errorf("Print(%d) = %q, want %q", set, got, want)
		}
	}
}

func TestPrintOfEverySet(t *testing.T) {
	for set := range everySet {
		if got, want := trait.Print(set), wantText(set); got != want {
			t.Fatalf("Print(%d) = %q, want %q", set, got, want)
		}
	}
}

func wantParse(t *testing.T, text string, set api.Traits, e api.Errno) {
	t.Helper()
	if got, gotE := trait.Parse(text); got != set || gotE != e {
		t.Errorf("Parse(%.80q) = %d, %v, want %d, %v", text, got, gotE, set, e)
	}
}

func TestParseOfTextsThatMayBe(t *testing.T) {
	wantParse(t, "-", 0, api.OK)
	for i, name := range wantNames() {
		wantParse(t, name, wantBits()[i+1], api.OK)
	}
	wantParse(t, "fast swift", 129, api.OK)
	wantParse(t, "guard venom mute", 2+4+32, api.OK)
	wantParse(t, strings.Join(wantNames(), " "), 255, api.OK)
}

func TestParseOfNamesThatAreNone(t *testing.T) {
	for _, name := range noNames() {
		if name == "-" || name == "fast swift" {
			continue // these two are texts of sets
		}
		wantParse(t, name, 0, api.ErrName)
		wantParse(t, "fast "+name, 0, api.ErrName)
		wantParse(t, name+" swift", 0, api.ErrName)
	}
	for _, text := range []string{"- fast", "fast -", "- -", "--", "-fast", " -", "- ", "fast,swift", "fast\u00a0swift", "fast\nswift"} {
		wantParse(t, text, 0, api.ErrName)
	}
}

func TestParseOfBlanksTooMany(t *testing.T) {
	for _, text := range []string{"", " ", "  ", " fast", "fast ", " fast ", "fast  swift", "fast swift  ", "  fast swift"} {
		wantParse(t, text, 0, api.ErrName)
	}
}

func TestParseOfTraitsTwiceOrOutOfOrder(t *testing.T) {
	names := wantNames()
	for later, name := range names {
		for earlier := range later + 1 {
			wantParse(t, name+" "+names[earlier], 0, api.ErrThere)
		}
	}
	for _, text := range []string{"fast swift fast", "fast swift swift", "fast fast swift", "guard fast swift", "fast swift guard", "fast guard venom lone drain mute swift fixed"} {
		wantParse(t, text, 0, api.ErrThere)
	}
}

// ErrName is named ahead of ErrThere, wherever the piece stands that is no name.
func TestParseWhereBothErrorsWouldFit(t *testing.T) {
	for _, text := range []string{"swift x fast", "swift fast x", "x swift fast", "fast fast ", " fast fast", "fast fast  swift", "swift fast -", "- swift fast", "swift Fast", "swift fast Fast"} {
		wantParse(t, text, 0, api.ErrName)
	}
}

func TestParseOfLongTexts(t *testing.T) {
	many := strings.Repeat("fast ", 100_000)
	wantParse(t, many+"fast", 0, api.ErrThere)
	wantParse(t, many, 0, api.ErrName)
	wantParse(t, many+"x", 0, api.ErrName)
	wantParse(t, strings.Repeat(" ", 1_000_000), 0, api.ErrName)
	wantParse(t, strings.Repeat("fast", 100_000), 0, api.ErrName)
	wantParse(t, strings.Repeat("-", 100_000), 0, api.ErrName)
}

// wantOfPieces is what Parse should tell of a text of these pieces, a blank between each two.
func wantOfPieces(pieces []string) (api.Traits, api.Errno) {
	if len(pieces) == 1 && pieces[0] == "-" {
		return 0, api.OK
	}
	var set api.Traits
	before, rising := -1, true
	for _, piece := range pieces {
		at := slices.Index(wantNames(), piece)
		if at < 0 {
			return 0, api.ErrName
		}
		rising = rising && at > before
		before = max(before, at)
		set |= wantBits()[at+1]
	}
	if !rising {
		return 0, api.ErrThere
	}
	return set, api.OK
}

func TestParseOfAllTextsOfAFewPieces(t *testing.T) {
	words := append(wantNames(), "", "-", "x", "Fast")
	texts := [][]string{{}}
	for range 4 {
		var longer [][]string
		for _, pieces := range texts {
			for _, word := range words {
				more := append(slices.Clone(pieces), word)
				set, e := wantOfPieces(more)
				text := strings.Join(more, " ")
				wantParse(t, text, set, e)
				if e == api.OK && trait.Print(set) != text {
					t.Errorf("Print of what Parse reads of %q = %q", text, trait.Print(set))
				}
				longer = append(longer, more)
			}
		}
		texts = longer
	}
}

// P4.5 (notes in logs of every kind are tested with all layers that begin: package noting)

func TestBegin(t *testing.T) {
	l := start.New()
	if got := trait.Begin(l); got != 2 {
		t.Errorf("Begin = %d, want 2", got)
	}
	if got := l.List(); !slices.Equal(got, []int{104, 204}) || l.Closed() {
		t.Errorf("the log is %v, closed %v, want 104 204, open", got, l.Closed())
	}
}

func TestBeginOfLogWithRoomForOne(t *testing.T) {
	l := start.New()
	for range api.MaxNotes - 1 {
		l.Note(7)
	}
	if got := trait.Begin(l); got != 1 {
		t.Errorf("Begin of a log with room for one = %d, want 1", got)
	}
	if one, two := l.First(104), l.First(204); one != api.MaxNotes-1 || two != -1 {
		t.Errorf("the places of 104, 204 are %d, %d, want %d, -1", one, two, api.MaxNotes-1)
	}
}

// P4.4

func TestOfNameIsTheTrait(t *testing.T) {
	for x := range wanted() {
		if got, ok := trait.Of(trait.Name(x)); got != x || !ok {
			t.Errorf("Of(Name(%d)) = %d, %v", x, got, ok)
		}
	}
}

func TestNamesAndTextsAreUnlike(t *testing.T) {
	names, texts := map[string]api.Trait{}, map[string]api.Trait{}
	for _, x := range wantAll() {
		name, text := trait.Name(x), trait.Text(x)
		if names[name] != 0 || texts[text] != 0 {
			t.Errorf("%d is told like %d or %d: %q, %q", x, names[name], texts[text], name, text)
		}
		names[name], texts[text] = x, x
	}
}

func TestWithAndWithoutLeaveOtherTraits(t *testing.T) {
	for set := range everySet {
		for _, x := range wantAll() {
			with, without := trait.With(set, x), trait.Without(set, x)
			if !trait.Has(with, x) || trait.Has(without, x) {
				t.Fatalf("Has of With, Without of %d, %d: %v, %v", set, x, trait.Has(with, x), trait.Has(without, x))
			}
			if trait.With(with, x) != with || trait.Without(without, x) != without {
				t.Fatalf("With or Without twice of %d, %d is another set than once", set, x)
			}
			for _, other := range wantAll() {
				had := trait.Has(set, other)
				if other != x && (trait.Has(with, other) != had || trait.Has(without, other) != had) {
					t.Fatalf("With or Without of %d, %d changed %d", set, x, other)
				}
			}
		}
	}
}

func TestParseOfPrintIsTheSet(t *testing.T) {
	for set := range everySet {
		got, e := trait.Parse(trait.Print(set))
		if want := set & 255; got != want || e != api.OK {
			t.Fatalf("Parse(Print(%d)) = %d, %v, want %d, OK", set, got, e, want)
		}
	}
}

// told is all that the package tells of every number.
func told() map[api.Trait]facts {
	all := map[api.Trait]facts{}
	for _, x := range numbers() {
		if f := (facts{trait.Name(x), trait.Home(x), trait.Text(x)}); f != (facts{}) {
			all[x] = f
		}
	}
	return all
}

// isAsWanted holds what was told against the document.
func isAsWanted(all map[api.Trait]facts) bool {
	want := wanted()
	for x, f := range all {
		if f != want[x] {
			return false
		}
	}
	return len(all) == len(want)
}

func TestTheSameBehindBeginAndForManyGoroutines(t *testing.T) {
	answers := make([]map[api.Trait]facts, 16)
	texts := make([]string, 16)
	notes := make([][]int, 16)
	var all sync.WaitGroup
	for i := range answers {
		all.Go(func() {
			l := start.New()
			trait.Begin(l)
			l.Close()
			trait.Begin(l)
			set, _ := trait.Parse("guard venom mute")
			answers[i], texts[i], notes[i] = told(), trait.Print(set), l.List()
		})
	}
	all.Wait()
	for i := range answers {
		if !isAsWanted(answers[i]) || texts[i] != "guard venom mute" || !slices.Equal(notes[i], []int{104, 204}) {
			t.Errorf("goroutine %d was told %v and %q, its log is %v", i, answers[i], texts[i], notes[i])
		}
	}
}
