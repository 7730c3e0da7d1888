package card_test

import (
	"math"
	"reflect"
	"slices"
	"strings"
	"testing"

	"gambit/api"
	"gambit/card"
)

func rock() api.Card {
	return api.Card{Name: "rock", Suit: api.Earth, Kind: api.Unit, Cost: 1, Power: 1, Health: 1}
}

func zap() api.Card { return api.Card{Name: "zap", Suit: api.Fire, Kind: api.Spell, Cost: 3} }

func idol() api.Card { return api.Card{Name: "idol", Suit: api.Gold, Kind: api.Relic, Cost: 2} }

// ofEachKind has a card of each kind that may be.
func ofEachKind() []api.Card { return []api.Card{rock(), zap(), idol()} }

// but gives a card with a change.
func but(c api.Card, change func(*api.Card)) api.Card {
	change(&c)
	return c
}

func withParts(c api.Card, parts ...api.Part) api.Card {
	c.Parts = parts
	return c
}

// of has for each When a part that may be.
func of(w api.When) api.Part {
	switch w {
	case api.Always:
		return api.Part{When: w, Verb: api.Raise, Whom: api.Dyed, Count: -1, Suit: api.Fire}
	case api.Rather:
		return api.Part{When: w, Verb: api.Less, Whom: api.Yours, Count: 1}
	}
	return api.Part{When: w, Verb: api.Mend, Whom: api.You, Count: 1}
}

// badParts are parts that effect.Check refuses, with each of its errors, each with a When that a card of any kind may have.
func badParts() map[api.Errno][]api.Part {
	return map[api.Errno][]api.Part{
		api.ErrArg:    {{}, {When: api.Played, Verb: api.Harm, Whom: api.It}, {When: api.Played, Verb: 20, Whom: api.It, Count: 1}, {When: api.Played, Verb: api.Break, Whom: api.It, Suit: api.Air}},
		api.ErrCard:   {{When: api.Played, Verb: api.Raise, Whom: api.All, Count: 1}},
		api.ErrTarget: {{When: api.Played, Verb: api.Break, Whom: api.Foe}},
		api.ErrName:   {{When: api.Played, Verb: api.Call, Whom: api.You, Count: 1}, {When: api.Played, Verb: api.Call, Whom: api.You, Count: 1, Name: "Wisp"}},
	}
}

func goodNames() []string {
	return []string{"rock", "a", "z-", "token", "earth", "unit", "abcdefghijklmnopqrst", "z-------------------"}
}

func badNames() []string {
	return []string{"", "-", "-a", "Rock", "rocK", "rock1", "two rocks", " rock", "rock ", "rock\n", "a|b", "+guard", "a\x00", "\xff", "\u00e4", "abcdefghijklmnopqrstu", strings.Repeat("a", 1000)}
}

func wantCheck(t *testing.T, c api.Card, want api.Errno) {
	t.Helper()
	if got := card.Check(c); got != want {
		t.Errorf("Check(%+v) = %d, want %d", c, got, want)
	}
}

// P6.1

func TestCheckOfExamples(t *testing.T) {
	wantCheck(t, rock(), api.OK)
	wantCheck(t, but(rock(), func(c *api.Card) { c.Name = "Rock" }), api.ErrName)
	wantCheck(t, but(rock(), func(c *api.Card) { c.Suit = 0 }), api.ErrCard)
	wantCheck(t, but(rock(), func(c *api.Card) { c.Cost = 11 }), api.ErrArg)
	wantCheck(t, but(rock(), func(c *api.Card) { c.Health = 0 }), api.ErrCard)
	wantCheck(t, but(zap(), func(c *api.Card) { c.Power = 1 }), api.ErrCard)
	wantCheck(t, but(zap(), func(c *api.Card) { c.Token = true }), api.ErrCard)
	wantCheck(t, withParts(rock(), of(api.Played), of(api.Broken), of(api.Begun), of(api.Struck), of(api.Always)), api.ErrLong)
	wantCheck(t, api.Card{}, api.ErrName)
}

func TestCheckOfNames(t *testing.T) {
	for _, c := range ofEachKind() {
		for _, c.Name = range goodNames() {
			wantCheck(t, c, api.OK)
		}
		for _, c.Name = range badNames() {
			wantCheck(t, c, api.ErrName)
		}
	}
}

func TestCheckOfEverySuit(t *testing.T) {
	for _, c := range ofEachKind() {
		for n := range math.MaxUint8 + 1 {
			c.Suit = api.Suit(n)
			want := api.ErrCard
			if n >= 1 && n <= 6 {
				want = api.OK
			}
			wantCheck(t, c, want)
		}
	}
}

func TestCheckOfEveryKind(t *testing.T) {
	whole := rock()
	bare := but(rock(), func(c *api.Card) { c.Power, c.Health = 0, 0 })
	for n := range math.MaxUint8 + 1 {
		wantWhole, wantBare := api.ErrCard, api.ErrCard
		switch n {
		case 1:
			wantWhole = api.OK
		case 2, 3:
			wantBare = api.OK
		}
		whole.Kind, bare.Kind = api.Kind(n), api.Kind(n)
		wantCheck(t, whole, wantWhole)
		wantCheck(t, bare, wantBare)
	}
}

func TestCheckOfCost(t *testing.T) {
	for _, c := range ofEachKind() {
		for c.Cost = range 11 {
			wantCheck(t, c, api.OK)
		}
		for _, c.Cost = range []int{math.MinInt, -11, -10, -2, -1, 11, 12, 99, 256, math.MaxInt} {
			wantCheck(t, c, api.ErrArg)
		}
	}
}

func TestCheckOfPowerAndHealthOfUnits(t *testing.T) {
	past := []int{math.MinInt, -100, -99, -1, 100, 101, 256, math.MaxInt}
	c := rock()
	for c.Power = range 100 {
		for c.Health = range 100 {
			want := api.OK
			if c.Health == 0 {
				want = api.ErrCard
			}
			wantCheck(t, c, want)
		}
	}
	for _, c.Power = range past {
		for _, c.Health = range append([]int{0, 1, 99}, past...) {
			wantCheck(t, c, api.ErrArg)
		}
	}
	for _, c.Health = range past {
		for _, c.Power = range []int{0, 1, 99} {
			wantCheck(t, c, api.ErrArg)
		}
	}
}

func TestCheckOfPowerAndHealthOfOthers(t *testing.T) {
	for _, c := range ofEachKind()[1:] {
		for _, c.Power = range []int{-1, 0, 1, 2, 98, 99, 100} {
			for _, c.Health = range []int{-1, 0, 1, 2, 98, 99, 100} {
				want := api.ErrCard
				switch {
				case c.Power < 0 || c.Power > 99 || c.Health < 0 || c.Health > 99:
					want = api.ErrArg
				case c.Power == 0 && c.Health == 0:
					want = api.OK
				}
				wantCheck(t, c, want)
			}
		}
	}
}

func TestCheckOfEverySetOfTraits(t *testing.T) {
	for _, c := range ofEachKind() {
		for set := range math.MaxUint16 + 1 {
			c.Traits = api.Traits(set)
			want := api.OK
			if set > 255 {
				want = api.ErrCard
			}
			if got := card.Check(c); got != want {
				t.Fatalf("Check(%+v) = %d, want %d", c, got, want)
			}
		}
	}
}

func TestCheckOfTokens(t *testing.T) {
	token := func(c *api.Card) { c.Token = true }
	wantCheck(t, but(rock(), token), api.OK)
	wantCheck(t, but(zap(), token), api.ErrCard)
	wantCheck(t, but(idol(), token), api.OK)
}

func TestCheckOfHowManyParts(t *testing.T) {
	for _, c := range ofEachKind() {
		c.Parts = []api.Part{}
		wantCheck(t, c, api.OK)
		for count := range 20 {
			c.Parts = slices.Repeat([]api.Part{of(api.Played)}, count)
			want := api.OK
			if count > 4 {
				want = api.ErrLong
			}
			wantCheck(t, c, want)
		}
		// What lies in the spare room is no part.
		c.Parts = slices.Repeat([]api.Part{of(api.Played), {}}, 4)[:1]
		wantCheck(t, c, api.OK)
	}
}

func TestCheckOfPartsThatMayNotBe(t *testing.T) {
	for _, c := range ofEachKind() {
		for want, parts := range badParts() {
			for _, bad := range parts {
				for count := 1; count <= 4; count++ {
					for place := range count {
						c.Parts = slices.Repeat([]api.Part{of(api.Played)}, count)
						c.Parts[place] = bad
						wantCheck(t, c, want)
					}
				}
			}
		}
	}
}

// mayHave has for each kind the Whens that its parts may have.
func mayHave() map[api.Kind][]api.When {
	return map[api.Kind][]api.When{
		api.Unit:  {api.Played, api.Broken, api.Begun, api.Struck, api.Always, api.Rather},
		api.Spell: {api.Played},
		api.Relic: {api.Played, api.Broken, api.Begun, api.Always, api.Rather},
	}
}

func TestCheckOfEachWhen(t *testing.T) {
	for _, c := range ofEachKind() {
		for when := api.Played; when <= api.Rather; when++ {
			want := api.ErrCard
			if slices.Contains(mayHave()[c.Kind], when) {
				want = api.OK
			}
			for count := 1; count <= 4; count++ {
				for place := range count {
					c.Parts = slices.Repeat([]api.Part{of(api.Played)}, count)
					c.Parts[place] = of(when)
					wantCheck(t, c, want)
				}
			}
		}
	}
}

// Of several errors that fit the first that the document names is told; of parts that of the first one.
func TestCheckOfSeveralErrors(t *testing.T) {
	noCount := api.Part{When: api.Begun, Verb: api.Harm, Whom: api.Foe}
	noName := api.Part{When: api.Played, Verb: api.Call, Whom: api.You, Count: 1}
	for _, x := range []struct {
		what string
		c    api.Card
		want api.Errno
	}{
		{"a spell's part that may not be, with a When that it may not have", withParts(zap(), noCount), api.ErrArg},
		{"a relic's part that may not be, with a When that it may not have", withParts(idol(), api.Part{When: api.Struck, Verb: api.Break, Whom: api.You}), api.ErrTarget},
		{"a spell's first part with another When, a second that may not be", withParts(zap(), of(api.Begun), noName), api.ErrCard},
		{"a spell's first part that may not be, a second with another When", withParts(zap(), noName, of(api.Begun)), api.ErrName},
		{"a unit's parts that may not be", withParts(rock(), of(api.Struck), noCount, noName), api.ErrArg},
		{"a unit's parts that may not be, the other way round", withParts(rock(), of(api.Struck), noName, noCount), api.ErrName},
		{"five parts, the first of which may not be", withParts(rock(), noName, of(1), of(1), of(1), of(1)), api.ErrLong},
		{"five parts of a spell that is a token", but(withParts(zap(), of(1), of(1), of(1), of(1), of(1)), func(c *api.Card) { c.Token = true }), api.ErrCard},
		{"nothing that fits", api.Card{Name: "X", Suit: 7, Kind: 4, Cost: 11, Power: 100, Health: 100, Traits: 256, Token: true, Parts: make([]api.Part, 5)}, api.ErrName},
		{"nothing but the name that fits", api.Card{Name: "x", Suit: 7, Kind: 4, Cost: 11, Power: 100, Health: 100, Traits: 256, Token: true, Parts: make([]api.Part, 5)}, api.ErrCard},
		{"numbers that do not fit, traits and parts neither", api.Card{Name: "x", Suit: 6, Kind: 1, Cost: 11, Power: 100, Traits: 256, Token: true, Parts: make([]api.Part, 5)}, api.ErrArg},
		{"a Health of 0, and too many parts", but(rock(), func(c *api.Card) { c.Health, c.Parts = 0, make([]api.Part, 5) }), api.ErrCard},
		{"traits that may not be, and too many parts", but(rock(), func(c *api.Card) { c.Traits, c.Parts = 256, make([]api.Part, 5) }), api.ErrCard},
	} {
		if got := card.Check(x.c); got != x.want {
			t.Errorf("Check of %s = %d, want %d", x.what, got, x.want)
		}
	}
}

// partsList is a list of parts, with what Check tells of it for a card of each kind that has nothing else amiss.
type partsList struct {
	parts []api.Part
	want  map[api.Kind]api.Errno
}

func partsLists() []partsList {
	alike := func(e api.Errno) map[api.Kind]api.Errno {
		return map[api.Kind]api.Errno{api.Unit: e, api.Spell: e, api.Relic: e}
	}
	return []partsList{
		{nil, alike(api.OK)},
		{[]api.Part{{When: api.Played, Verb: api.Harm, Whom: api.It, Count: 3}}, alike(api.OK)},
		{[]api.Part{of(api.Played), of(api.Played), of(api.Played), of(api.Played)}, alike(api.OK)},
		{[]api.Part{of(api.Broken), of(api.Begun), of(api.Always), of(api.Rather)}, map[api.Kind]api.Errno{api.Spell: api.ErrCard}},
		{[]api.Part{of(api.Struck), {When: api.Played, Verb: api.Call, Whom: api.With, Count: 2, Trait: api.Lone, Name: "token"}}, map[api.Kind]api.Errno{api.Spell: api.ErrCard, api.Relic: api.ErrCard}},
		{[]api.Part{of(api.Struck), {}}, map[api.Kind]api.Errno{api.Unit: api.ErrArg, api.Spell: api.ErrCard, api.Relic: api.ErrCard}},
		{[]api.Part{of(api.Played), {When: api.Played, Verb: api.Back, Whom: api.You}}, alike(api.ErrTarget)},
		{make([]api.Part, 5), alike(api.ErrLong)},
	}
}

// mixed is a card with what Check ought to tell of it.
type mixed struct {
	c    api.Card
	want api.Errno
}

// everyMixture goes over cards with each field good or not, in all mixtures.
func everyMixture(yield func(mixed) bool) {
	for _, c := range everyHead() {
		for _, list := range partsLists() {
			c.Parts = list.parts
			want := wantHead(c)
			if want == api.OK {
				want = list.want[c.Kind]
			}
			if !yield(mixed{c, want}) {
				return
			}
		}
	}
}

func everyHead() []api.Card {
	all := []api.Card{{}}
	all = spread(all, []string{"rock", "Rock"}, func(c *api.Card, s string) { c.Name = s })
	all = spread(all, []api.Suit{0, 1, 6, 7}, func(c *api.Card, s api.Suit) { c.Suit = s })
	all = spread(all, []api.Kind{0, 1, 2, 3, 4}, func(c *api.Card, k api.Kind) { c.Kind = k })
	all = spread(all, []int{-1, 0, 10, 11}, func(c *api.Card, n int) { c.Cost = n })
	all = spread(all, []int{-1, 0, 99, 100}, func(c *api.Card, n int) { c.Power = n })
	all = spread(all, []int{-1, 0, 1, 99, 100}, func(c *api.Card, n int) { c.Health = n })
	all = spread(all, []api.Traits{0, 2 | 128, 256}, func(c *api.Card, set api.Traits) { c.Traits = set })
	return spread(all, []bool{false, true}, func(c *api.Card, is bool) { c.Token = is })
}

// spread gives each of the cards with each of the values.
func spread[T any](cards []api.Card, values []T, set func(*api.Card, T)) []api.Card {
	var all []api.Card
	for _, c := range cards {
		for _, v := range values {
			set(&c, v)
			all = append(all, c)
		}
	}
	return all
}

// wantHead is what Check ought to tell of a card, its parts aside: the first of what is amiss, in the document's order.
func wantHead(c api.Card) api.Errno {
	unit, spell := c.Kind == 1, c.Kind == 2
	for _, x := range []struct {
		amiss bool
		e     api.Errno
	}{
		{c.Name != "rock", api.ErrName},
		{c.Suit == 0 || c.Suit == 7 || c.Kind == 0 || c.Kind == 4, api.ErrCard},
		{c.Cost == -1 || c.Cost == 11 || c.Power == -1 || c.Power == 100 || c.Health == -1 || c.Health == 100, api.ErrArg},
		{unit && c.Health == 0, api.ErrCard},
		{!unit && c.Power+c.Health > 0, api.ErrCard},
		{c.Traits == 256, api.ErrCard},
		{spell && c.Token, api.ErrCard},
	} {
		if x.amiss {
			return x.e
		}
	}
	return api.OK
}

func TestCheckOfEveryMixture(t *testing.T) {
	good := 0
	for x := range everyMixture {
		if got := card.Check(x.c); got != x.want {
			t.Fatalf("Check(%+v) = %d, want %d", x.c, got, x.want)
		}
		if x.want == api.OK {
			good++
		}
	}
	if good < 100 {
		t.Errorf("%d cards that may be: too few were looked at", good)
	}
}

// P6.4

// changes has for each field of a card, and of its parts, something that changes it alone.
func changes() map[string]func(*api.Card) {
	return map[string]func(*api.Card){
		"Name":            func(c *api.Card) { c.Name += "s" },
		"Name, a byte":    func(c *api.Card) { c.Name = "R" + c.Name[1:] },
		"Suit":            func(c *api.Card) { c.Suit++ },
		"Kind":            func(c *api.Card) { c.Kind++ },
		"Cost":            func(c *api.Card) { c.Cost++ },
		"Power":           func(c *api.Card) { c.Power++ },
		"Health":          func(c *api.Card) { c.Health++ },
		"Traits":          func(c *api.Card) { c.Traits ^= 1 },
		"Traits, no such": func(c *api.Card) { c.Traits ^= 1 << 15 },
		"Token":           func(c *api.Card) { c.Token = !c.Token },
		"a part's When":   func(c *api.Card) { c.Parts[0].When++ },
		"a part's Verb":   func(c *api.Card) { c.Parts[1].Verb++ },
		"a part's Whom":   func(c *api.Card) { c.Parts[2].Whom++ },
		"a part's Count":  func(c *api.Card) { c.Parts[0].Count++ },
		"a part's Suit":   func(c *api.Card) { c.Parts[1].Suit++ },
		"a part's Trait":  func(c *api.Card) { c.Parts[2].Trait++ },
		"a part's Mark":   func(c *api.Card) { c.Parts[0].Mark++ },
		"a part's Name":   func(c *api.Card) { c.Parts[2].Name += "s" },
		"parts' order":    func(c *api.Card) { slices.Reverse(c.Parts) },
		"a part more":     func(c *api.Card) { c.Parts = append(c.Parts, c.Parts[2]) },
		"an empty part":   func(c *api.Card) { c.Parts = append(c.Parts, api.Part{}) },
		"a part less":     func(c *api.Card) { c.Parts = c.Parts[:2] },
		"no parts":        func(c *api.Card) { c.Parts = nil },
	}
}

// many are cards with three parts each: one that may be, and two that may not.
func many() []api.Card {
	parts := func() []api.Part { return []api.Part{of(api.Played), of(api.Always), of(api.Struck)} }
	odd := api.Card{Name: "?", Suit: 200, Kind: 77, Cost: -5, Power: math.MinInt, Health: 1000, Traits: 0xfff0, Token: true}
	return []api.Card{withParts(rock(), parts()...), withParts(zap(), parts()...), withParts(odd, api.Part{}, api.Part{When: 9, Verb: 99, Whom: 99, Count: -1, Suit: 9, Trait: 9, Mark: 9, Name: "?"}, api.Part{Name: "x"})}
}

func wantSame(t *testing.T, what string, a, b api.Card, want bool) {
	t.Helper()
	if card.Same(a, b) != want || card.Same(b, a) != want {
		t.Errorf("%s: Same(%+v, %+v) is not %v either way round", what, a, b, want)
	}
}

func TestSame(t *testing.T) {
	for i, c := range many() {
		wantSame(t, "itself", c, c, true)
		wantSame(t, "made anew", c, many()[i], true)
		for what, change := range changes() {
			wantSame(t, what, c, but(many()[i], change), false)
		}
		for j, other := range many() {
			wantSame(t, "another", c, other, i == j)
		}
	}
	empty := but(rock(), func(c *api.Card) { c.Parts = []api.Part{} })
	wantSame(t, "nil and empty parts", rock(), empty, true)
	wantSame(t, "no card", api.Card{}, api.Card{}, true)
	wantSame(t, "no card", api.Card{}, rock(), false)
}

// What lies behind the end of a list does not count.
func TestSameOfPartsWithSpareRoom(t *testing.T) {
	long := []api.Part{of(api.Played), of(api.Begun), of(api.Struck)}
	wantSame(t, "spare room", withParts(rock(), long[:1]...), withParts(rock(), of(api.Played)), true)
	wantSame(t, "spare room", withParts(rock(), long[:0]...), rock(), true)
}

func TestCopyIsTheSame(t *testing.T) {
	for _, c := range append(append(many(), ofEachKind()...), api.Card{}, withParts(rock(), make([]api.Part, 1000)...)) {
		if got := card.Copy(c); !reflect.DeepEqual(got, c) {
			t.Errorf("Copy(%+v) = %+v", c, got)
		}
	}
	empty := rock()
	empty.Parts = []api.Part{}
	if got := card.Copy(empty); len(got.Parts) != 0 || got.Name != "rock" {
		t.Errorf("Copy of a card with an empty list = %+v", got)
	}
}

func TestCopyLiesInMemoryOfItsOwn(t *testing.T) {
	for i, c := range many() {
		got := card.Copy(c)
		for place := range got.Parts {
			got.Parts[place] = api.Part{Name: "changed"}
		}
		if !reflect.DeepEqual(c, many()[i]) {
			t.Errorf("a change of the copy changed the card: %+v", c)
		}
		other := card.Copy(c)
		c.Parts[0].Count = 77
		if !reflect.DeepEqual(other, many()[i]) {
			t.Errorf("a change of the card changed the copy: %+v", other)
		}
	}
}

// The spare room of what was handed in is neither written nor handed out.
func TestCopyOfPartsWithSpareRoom(t *testing.T) {
	for count := range 4 {
		long := []api.Part{of(api.Played), of(api.Begun), of(api.Struck), of(api.Always)}
		c := rock()
		c.Parts = long[:count]
		got := card.Copy(c)
		for _, p := range got.Parts[len(got.Parts):cap(got.Parts)] {
			if p != (api.Part{}) {
				t.Errorf("the spare room of the copy has %+v", p)
			}
		}
		got.Parts = append(got.Parts, api.Part{Name: "more"})
		if long[count] != of([]api.When{api.Played, api.Begun, api.Struck, api.Always}[count]) {
			t.Errorf("a part more of the copy was written into the card's spare room: %+v", long)
		}
	}
}

func TestMeansOfEachWhenAndWhom(t *testing.T) {
	for when := range api.When(9) {
		for whom := range api.Whom(13) {
			for _, verb := range []api.Verb{0, api.Harm, api.Raise} {
				p := api.Part{When: when, Verb: verb, Whom: whom, Count: 1}
				want := when == 1 && whom == 3
				for _, c := range ofEachKind() {
					for count := 1; count <= 6; count++ {
						for place := range count {
							c.Parts = slices.Repeat([]api.Part{of(api.Played)}, count)
							c.Parts[place] = p
							if got := card.Means(c); got != want {
								t.Errorf("Means(%+v) = %v", c, got)
							}
						}
					}
				}
			}
		}
	}
}

func TestMeansOfOtherCards(t *testing.T) {
	// One part is Played, and another one about It: none is both.
	if card.Means(withParts(rock(), of(api.Played), api.Part{When: api.Begun, Verb: api.Harm, Whom: api.It, Count: 1})) {
		t.Error("Means of a card without a part that is both")
	}
	for _, c := range append(ofEachKind(), api.Card{}, api.Card{Parts: []api.Part{}}) {
		if card.Means(c) {
			t.Errorf("Means(%+v), without parts", c)
		}
	}
	// What lies in the spare room is no part.
	meant := []api.Part{of(api.Played), {When: api.Played, Verb: api.Harm, Whom: api.It, Count: 1}}
	if card.Means(withParts(rock(), meant[:1]...)) || !card.Means(withParts(rock(), meant...)) {
		t.Error("Means of a card counts its spare room, or not its last part")
	}
}

// No call changes what it was handed.
func TestHandedInStaysAsItWas(t *testing.T) {
	for _, count := range []int{0, 1, 3, 4, 5} {
		long := []api.Part{of(api.Struck), {}, of(api.Played), of(api.Always), {Name: "?"}, of(api.Begun)}
		before := slices.Clone(long)
		for _, c := range append(ofEachKind(), api.Card{}) {
			c.Parts = long[:count]
			card.Check(c)
			card.Print(c)
			card.Same(c, c)
			card.Copy(c)
			card.Means(c)
		}
		if !slices.Equal(long, before) {
			t.Errorf("a call changed the parts: %+v", long)
		}
	}
}
