package effect_test

import (
	"math"
	"slices"
	"strconv"
	"strings"
	"testing"

	"gambit/api"
	"gambit/effect"
)

// facts is what the document says of a verb: its word; the Whens that want it; about whom it may be, a letter for each of the ten in their order (y: yes, p: with Played alone, n: no); the bounds of Count, and whether 0 is within them; the other fields that it uses (S: Suit, T: Trait, M: Mark, N: Name); its layer.
type facts struct {
	word   string
	whens  string
	whoms  string
	least  int
	most   int
	nought bool
	fields string
	layer  int
}

func verbs() map[api.Verb]facts {
	const (
		events = "played broken begun struck"
		anyone = "yypyyyyyyy"
		things = "nnpyyyyyyy"
		stands = "nnnyyyyyyy"
		swaps  = "yynyyyyyyy"
	)
	return map[api.Verb]facts{
		1:  {"harm", events, anyone, 1, 99, false, "", 0},
		2:  {"mend", events, anyone, 1, 99, false, "", 0},
		3:  {"draw", events, anyone, 1, 99, false, "", 0},
		4:  {"drop", events, anyone, 1, 99, false, "", 0},
		5:  {"gain", events, anyone, -9, 9, false, "", 0},
		6:  {"break", events, things, 0, 0, true, "", 0},
		7:  {"call", events, anyone, 1, 99, false, "N", 0},
		8:  {"back", events, things, 0, 0, true, "", 0},
		9:  {"put", events, things, -99, 99, false, "M", 0},
		10: {"seize", "always", stands, 0, 0, true, "", 1},
		11: {"dye", "always", stands, 0, 0, true, "S", 2},
		12: {"grant", "always", stands, 0, 0, true, "T", 3},
		13: {"strip", "always", stands, 0, 0, true, "T", 3},
		14: {"base", "always", stands, 0, 99, true, "", 4},
		15: {"raise", "always", stands, -99, 99, false, "", 5},
		16: {"less", "rather", swaps, 1, 99, false, "", 0},
		17: {"twice", "rather", swaps, 0, 0, true, "", 0},
		18: {"turned", "rather", swaps, 0, 0, true, "", 0},
		19: {"instead", "rather", swaps, 1, 99, false, "", 0},
	}
}

func whenWords() []string {
	return []string{"", "played", "broken", "begun", "struck", "always", "rather"}
}

func whomWords() []string {
	return []string{"", "you", "foe", "it", "self", "yours", "theirs", "all", "rest", "dyed", "with"}
}

func suitWords() []string {
	return []string{"", "air", "earth", "fire", "water", "void", "gold"}
}

func traitWords() []string {
	return []string{"", "fast", "guard", "venom", "lone", "drain", "mute", "fixed", "swift"}
}

// usedFields gives the letters of all fields that a verb and a whom use, but for Count.
func usedFields(f facts, w api.Whom) string {
	switch w {
	case 9:
		return f.fields + "S"
	case 10:
		return f.fields + "T"
	}
	return f.fields
}

// wantHeads is what Check tells of When, Verb and Whom, whatever the other fields are.
func wantHeads(p api.Part) api.Errno {
	f, ok := verbs()[p.Verb]
	if !ok || p.When < 1 || p.When > 6 || p.Whom < 1 || p.Whom > 10 {
		return api.ErrArg
	}
	if !slices.Contains(strings.Fields(f.whens), whenWords()[p.When]) {
		return api.ErrCard
	}
	if f.word == "dye" && p.Whom == 9 {
		return api.ErrCard
	}
	if may := f.whoms[p.Whom-1]; may == 'n' || may == 'p' && p.When != 1 {
		return api.ErrTarget
	}
	return api.OK
}

// wantFields is what Check tells of a part whose When, Verb and Whom are good.
func wantFields(p api.Part, f facts) api.Errno {
	if p.Count < f.least || p.Count > f.most || p.Count == 0 && !f.nought {
		return api.ErrArg
	}
	used := usedFields(f, p.Whom)
	for _, n := range []struct {
		letter string
		number uint8
		most   uint8
	}{{"S", uint8(p.Suit), 6}, {"T", uint8(p.Trait), 8}, {"M", uint8(p.Mark), 4}} {
		if strings.Contains(used, n.letter) != (n.number != 0) || n.number > n.most {
			return api.ErrArg
		}
	}
	if strings.Contains(used, "N") {
		if !slices.Contains(goodNames(), p.Name) {
			return api.ErrName
		}
	} else if p.Name != "" {
		return api.ErrName
	}
	return api.OK
}

// goodNames are names, the shortest and the longest that may be among them, some of them words of texts too.
func goodNames() []string {
	return []string{"wisp", "a", "z-", "fast", "fire", "call", "it", "abcdefghijklmnopqrst", "z-------------------"}
}

func badNames() []string {
	return []string{"", "-", "-a", "Wisp", "wisP", "wisp1", "two words", " wisp", "wisp ", "wisp\n", "a\x00", "\xff", "\u00e4", "abcdefghijklmnopqrstu", strings.Repeat("a", 1000)}
}

// wantText is the text of a part that may be.
func wantText(p api.Part) string {
	f := verbs()[p.Verb]
	text := whenWords()[p.When] + " " + f.word + " " + whomWords()[p.Whom]
	if f.most > 0 {
		text += " " + strconv.Itoa(p.Count)
	}
	if p.Suit != 0 {
		text += " " + suitWords()[p.Suit]
	}
	if p.Trait != 0 {
		text += " " + traitWords()[p.Trait]
	}
	if p.Mark != 0 {
		text += " " + []string{"", "1", "2", "3", "4"}[p.Mark]
	}
	if p.Name != "" {
		text += " " + p.Name
	}
	return text
}

// some are numbers of one byte: all up to a bound, and the greatest.
func some(most int) []uint8 {
	var list []uint8
	for n := range most + 1 {
		list = append(list, uint8(n))
	}
	return append(list, 127, 128, 254, 255)
}

// everyHead goes over parts with each When, Verb and Whom, and with numbers that are none, all other fields 0.
func everyHead(yield func(api.Part) bool) {
	for _, when := range some(8) {
		for _, verb := range some(21) {
			for _, whom := range some(12) {
				if !yield(api.Part{When: api.When(when), Verb: api.Verb(verb), Whom: api.Whom(whom)}) {
					return
				}
			}
		}
	}
}

// goodHeads are those of everyHead that may be, if the other fields fit.
func goodHeads() []api.Part {
	var list []api.Part
	for p := range everyHead {
		if wantHeads(p) == api.OK {
			list = append(list, p)
		}
	}
	return list
}

func counts() []int {
	return []int{math.MinInt, -100, -99, -98, -10, -9, -8, -1, 0, 1, 2, 8, 9, 10, 98, 99, 100, math.MaxInt}
}

// spread goes over a part with all values of the fields behind its Whom that are handed in.
func spread(p api.Part, counts []int, kinds [3][]uint8, names []string) func(func(api.Part) bool) {
	return func(yield func(api.Part) bool) {
		for _, p.Count = range counts {
			for _, s := range kinds[0] {
				for _, tr := range kinds[1] {
					for _, m := range kinds[2] {
						for _, p.Name = range names {
							p.Suit, p.Trait, p.Mark = api.Suit(s), api.Trait(tr), api.Mark(m)
							if !yield(p) {
								return
							}
						}
					}
				}
			}
		}
	}
}

// up gives the numbers from 1 to most, if they are used, and 0 alone if not.
func up(used bool, most int) []uint8 {
	if !used {
		return []uint8{0}
	}
	var list []uint8
	for n := 1; n <= most; n++ {
		list = append(list, uint8(n))
	}
	return list
}

// everyGood goes over all parts that may be, but that of all names it has a few.
func everyGood(yield func(api.Part) bool) {
	for _, head := range goodHeads() {
		f := verbs()[head.Verb]
		var fitting []int
		for n := f.least; n <= f.most; n++ {
			if n != 0 || f.nought {
				fitting = append(fitting, n)
			}
		}
		used := usedFields(f, head.Whom)
		names := []string{""}
		if strings.Contains(used, "N") {
			names = goodNames()
		}
		kinds := [3][]uint8{up(strings.Contains(used, "S"), 6), up(strings.Contains(used, "T"), 8), up(strings.Contains(used, "M"), 4)}
		for p := range spread(head, fitting, kinds, names) {
			if !yield(p) {
				return
			}
		}
	}
}

func wantCheck(t *testing.T, p api.Part, want api.Errno) {
	t.Helper()
	if got := effect.Check(p); got != want {
		t.Errorf("Check(%+v) = %d, want %d", p, got, want)
	}
}

// P5.1

func TestCheckOfExamples(t *testing.T) {
	for _, x := range []struct {
		p    api.Part
		want api.Errno
	}{
		{api.Part{When: api.Played, Verb: api.Harm, Whom: api.It, Count: 3}, api.OK},
		{api.Part{When: api.Always, Verb: api.Grant, Whom: api.With, Trait: api.Fast}, api.OK},
		{api.Part{When: api.Always, Verb: api.Raise, Whom: api.Dyed, Count: -1, Suit: api.Fire}, api.OK},
		{api.Part{When: api.Played, Verb: api.Call, Whom: api.You, Count: 2, Name: "wisp"}, api.OK},
		{api.Part{When: api.Rather, Verb: api.Turned, Whom: api.Self}, api.OK},
		{api.Part{When: api.Always, Verb: api.Harm, Whom: api.You, Count: 1}, api.ErrCard},
		{api.Part{When: api.Broken, Verb: api.Harm, Whom: api.It, Count: 1}, api.ErrTarget},
		{api.Part{When: api.Played, Verb: api.Break, Whom: api.Foe}, api.ErrTarget},
		{api.Part{When: api.Played, Verb: api.Harm, Whom: api.It}, api.ErrArg},
		{api.Part{When: api.Played, Verb: api.Break, Whom: api.It, Count: 1}, api.ErrArg},
		{api.Part{When: api.Played, Verb: api.Put, Whom: api.Self, Count: 1}, api.ErrArg},
		{api.Part{When: api.Played, Verb: api.Call, Whom: api.You, Count: 1}, api.ErrName},
		{api.Part{When: api.Always, Verb: api.Dye, Whom: api.Dyed, Suit: api.Air}, api.ErrCard},
		{api.Part{}, api.ErrArg},
	} {
		wantCheck(t, x.p, x.want)
	}
}

// The errors of When, Verb and Whom come ahead of all others: no value of another field hides them.
func TestCheckOfEveryHead(t *testing.T) {
	for p := range everyHead {
		want := wantHeads(p)
		if want == api.OK {
			continue
		}
		wantCheck(t, p, want)
		p.Count = 1
		wantCheck(t, p, want)
		p.Count, p.Suit, p.Trait, p.Mark, p.Name = 1000, 77, 77, 77, "No Name"
		wantCheck(t, p, want)
	}
}

func TestCheckOfEveryHeadThatMayBe(t *testing.T) {
	kinds := [3][]uint8{{0, 1, 6, 7, 255}, {0, 1, 8, 9, 255}, {0, 1, 4, 5, 255}}
	names := []string{"", "wisp", "Wisp"}
	for _, head := range goodHeads() {
		f := verbs()[head.Verb]
		for p := range spread(head, counts(), kinds, names) {
			if got, want := effect.Check(p), wantFields(p, f); got != want {
				t.Fatalf("Check(%+v) = %d, want %d", p, got, want)
			}
		}
	}
}

func TestCheckOfEveryPartThatMayBe(t *testing.T) {
	for p := range everyGood {
		if got := effect.Check(p); got != api.OK {
			t.Fatalf("Check(%+v) = %d, want OK", p, got)
		}
	}
}

func TestCheckOfCountPastItsBounds(t *testing.T) {
	for _, x := range []struct {
		p    api.Part
		good []int
		bad  []int
	}{
		{api.Part{When: api.Played, Verb: api.Harm, Whom: api.Foe}, []int{1, 99}, []int{0, -1, 100, math.MinInt, math.MaxInt}},
		{api.Part{When: api.Rather, Verb: api.Instead, Whom: api.You}, []int{1, 99}, []int{0, -1, 100}},
		{api.Part{When: api.Begun, Verb: api.Put, Whom: api.Self, Mark: api.Up}, []int{-99, -1, 1, 99}, []int{-100, 0, 100}},
		{api.Part{When: api.Always, Verb: api.Raise, Whom: api.All}, []int{-99, -1, 1, 99}, []int{-100, 0, 100}},
		{api.Part{When: api.Struck, Verb: api.Gain, Whom: api.You}, []int{-9, -1, 1, 9}, []int{-10, 0, 10, 99}},
		{api.Part{When: api.Always, Verb: api.Base, Whom: api.Self}, []int{0, 1, 99}, []int{-1, 100}},
		{api.Part{When: api.Always, Verb: api.Seize, Whom: api.Theirs}, []int{0}, []int{-1, 1, 99}},
		{api.Part{When: api.Rather, Verb: api.Twice, Whom: api.Foe}, []int{0}, []int{-1, 1, 99}},
		{api.Part{When: api.Broken, Verb: api.Back, Whom: api.Self}, []int{0}, []int{-1, 1, 99}},
	} {
		for _, x.p.Count = range x.good {
			wantCheck(t, x.p, api.OK)
		}
		for _, x.p.Count = range x.bad {
			wantCheck(t, x.p, api.ErrArg)
		}
	}
}

func TestCheckOfEverySuitTraitAndMark(t *testing.T) {
	plain := api.Part{When: api.Played, Verb: api.Back, Whom: api.It}
	dyes := api.Part{When: api.Always, Verb: api.Dye, Whom: api.All}
	dyed := api.Part{When: api.Broken, Verb: api.Break, Whom: api.Dyed}
	grants := api.Part{When: api.Always, Verb: api.Grant, Whom: api.Yours}
	with := api.Part{When: api.Rather, Verb: api.Twice, Whom: api.With}
	both := api.Part{When: api.Always, Verb: api.Strip, Whom: api.With}
	puts := api.Part{When: api.Played, Verb: api.Put, Whom: api.It, Count: 1}
	within := func(n, most int) api.Errno {
		if n >= 1 && n <= most {
			return api.OK
		}
		return api.ErrArg
	}
	unused := func(n int) api.Errno { return within(1-n, 1) }
	for n := range math.MaxUint8 + 1 {
		plain.Suit, dyes.Suit, dyed.Suit = api.Suit(n), api.Suit(n), api.Suit(n)
		wantCheck(t, plain, unused(n))
		wantCheck(t, dyes, within(n, 6))
		wantCheck(t, dyed, within(n, 6))
		plain.Suit = 0
		plain.Trait, grants.Trait, with.Trait, both.Trait = api.Trait(n), api.Trait(n), api.Trait(n), api.Trait(n)
		wantCheck(t, plain, unused(n))
		wantCheck(t, grants, within(n, 8))
		wantCheck(t, with, within(n, 8))
		wantCheck(t, both, within(n, 8))
		plain.Trait = 0
		plain.Mark, puts.Mark = api.Mark(n), api.Mark(n)
		wantCheck(t, plain, unused(n))
		wantCheck(t, puts, within(n, 4))
		plain.Mark = 0
	}
}

func TestCheckOfNames(t *testing.T) {
	calls := api.Part{When: api.Broken, Verb: api.Call, Whom: api.Foe, Count: 99}
	for _, calls.Name = range goodNames() {
		wantCheck(t, calls, api.OK)
	}
	for _, calls.Name = range badNames() {
		wantCheck(t, calls, api.ErrName)
	}
	plain := api.Part{When: api.Broken, Verb: api.Break, Whom: api.Theirs}
	wantCheck(t, plain, api.OK)
	for _, plain.Name = range append(goodNames(), badNames()[1:]...) {
		wantCheck(t, plain, api.ErrName)
	}
}

// Of several errors that fit the first that the document names is told.
func TestCheckOfSeveralErrors(t *testing.T) {
	for _, x := range []struct {
		what string
		p    api.Part
		want api.Errno
	}{
		{"no When, a wrong Name", api.Part{When: 0, Verb: api.Break, Whom: api.Self, Name: "X"}, api.ErrArg},
		{"no Verb, It without Played", api.Part{When: api.Begun, Verb: 20, Whom: api.It}, api.ErrArg},
		{"no Whom, a verb that is not wanted", api.Part{When: api.Always, Verb: api.Harm, Whom: 11}, api.ErrArg},
		{"not wanted, not about It, no Count", api.Part{When: api.Always, Verb: api.Harm, Whom: api.It}, api.ErrCard},
		{"not wanted, not about You, a wrong Name", api.Part{When: api.Rather, Verb: api.Raise, Whom: api.You, Name: "X"}, api.ErrCard},
		{"Dye of Dyed, no Suit, a Count", api.Part{When: api.Always, Verb: api.Dye, Whom: api.Dyed, Count: 1}, api.ErrCard},
		{"not about It, no Count, a wrong Name", api.Part{When: api.Struck, Verb: api.Harm, Whom: api.It, Name: "X"}, api.ErrTarget},
		{"not about You, a Count", api.Part{When: api.Played, Verb: api.Back, Whom: api.You, Count: 1}, api.ErrTarget},
		{"no Count, a wrong Name", api.Part{When: api.Played, Verb: api.Call, Whom: api.You, Name: "X"}, api.ErrArg},
		{"no Mark, a Name", api.Part{When: api.Played, Verb: api.Put, Whom: api.It, Count: 1, Name: "wisp"}, api.ErrArg},
		{"no Trait, no Name", api.Part{When: api.Played, Verb: api.Call, Whom: api.With, Count: 1}, api.ErrArg},
	} {
		if got := effect.Check(x.p); got != x.want {
			t.Errorf("Check of %s = %d, want %d", x.what, got, x.want)
		}
	}
}

// P5.2

func TestUsesOfEveryVerbAndWhom(t *testing.T) {
	table := verbs()
	for v := range math.MaxUint8 + 1 {
		for w := range math.MaxUint8 + 1 {
			f := table[api.Verb(v)]
			used := usedFields(f, api.Whom(w))
			want := [5]bool{f.most > 0, strings.Contains(used, "S"), strings.Contains(used, "T"), strings.Contains(used, "M"), strings.Contains(used, "N")}
			var got [5]bool
			got[0], got[1], got[2], got[3], got[4] = effect.Uses(api.Verb(v), api.Whom(w))
			if got != want {
				t.Errorf("Uses(%d, %d) = %v, want %v", v, w, got, want)
			}
		}
	}
}

func TestLayerOfEveryVerb(t *testing.T) {
	table := verbs()
	for v := range math.MaxUint8 + 1 {
		if got, want := effect.Layer(api.Verb(v)), table[api.Verb(v)].layer; got != want {
			t.Errorf("Layer(%d) = %d, want %d", v, got, want)
		}
	}
}

func TestSame(t *testing.T) {
	one := api.Part{When: 1, Verb: 2, Whom: 3, Count: 4, Suit: 5, Trait: 6, Mark: 7, Name: "wisp"}
	changes := map[string]func(*api.Part){
		"When":          func(p *api.Part) { p.When++ },
		"Verb":          func(p *api.Part) { p.Verb++ },
		"Whom":          func(p *api.Part) { p.Whom++ },
		"Count":         func(p *api.Part) { p.Count = -p.Count },
		"Count, far up": func(p *api.Part) { p.Count += 1 << 32 },
		"Suit":          func(p *api.Part) { p.Suit++ },
		"Trait":         func(p *api.Part) { p.Trait++ },
		"Mark":          func(p *api.Part) { p.Mark++ },
		"Name":          func(p *api.Part) { p.Name = "wisq" },
		"Name's length": func(p *api.Part) { p.Name += "s" },
		"no Name":       func(p *api.Part) { p.Name = "" },
	}
	for what, change := range changes {
		two := one
		if !effect.Same(one, two) {
			t.Errorf("a part is not the same as its copy")
		}
		change(&two)
		if effect.Same(one, two) || effect.Same(two, one) {
			t.Errorf("Same of parts that differ in %s", what)
		}
		three := one
		change(&three)
		if !effect.Same(two, three) {
			t.Errorf("%s changed alike: not the same", what)
		}
	}
	if !effect.Same(api.Part{}, api.Part{}) || effect.Same(one, api.Part{}) || effect.Same(api.Part{}, one) {
		t.Errorf("Same of empty parts is wrong")
	}
	again := one
	again.Name = string([]byte{'w', 'i', 's', 'p'})
	if !effect.Same(one, again) {
		t.Errorf("the same name in other memory: not the same")
	}
}
