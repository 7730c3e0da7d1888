package swap_test

import (
	"fmt"
	"math"
	"slices"
	"testing"

	"gambit/api"
	"gambit/pile"
	"gambit/swap"
)

// All four calls against a second reckoning, written by the chapter's words, of scenes by chance.

// chance tells numbers out of pile's generator.
type chance struct{ state uint64 }

// from tells a number from low to high.
func (c *chance) from(low, high int) int {
	var number uint64
	number, c.state = pile.Next(c.state)
	return low + int(number%uint64(high-low+1))
}

// one tells one of a list.
func one[T any](c *chance, list ...T) T { return list[c.from(0, len(list)-1)] }

// shuffled is a list in an order by chance.
func shuffled[T any](c *chance, list []T) []T {
	order := make([]int, len(list))
	for i := range order {
		order[i] = i
	}
	order, c.state = pile.Shuffle(order, c.state)
	other := make([]T, len(list))
	for to, from := range order {
		other[to] = list[from]
	}
	return other
}

// part is a swap by chance, told as a text.
func (c *chance) part() string {
	verb := one(c, "less", "twice", "turned", "instead")
	whom := one(c, "you", "you", "foe", "foe", "self", "yours", "theirs", "all", "rest", "dyed", "with")
	text := "rather " + verb + " " + whom
	if verb == "less" || verb == "instead" {
		text += fmt.Sprint(" ", one(c, 1, 2, 3, 99))
	}
	return text + map[string]string{"dyed": " gold", "with": " fast"}[whom]
}

// cards are units and relics by chance, each with up to four parts, of which some are no swaps.
func (c *chance) cards() []string {
	list := []string{"zap air spell 1", "bare air unit 1 3/1"}
	for i := range 10 {
		text := fmt.Sprintf("%c %s ", 'a'+i, one(c, "air", "gold"))
		text += one(c, "relic 1", "unit 1 2/3", "unit 1 0/9 +mute")
		for range c.from(0, 4) {
			part := c.part()
			if c.from(0, 4) == 0 {
				part = one(c, "always raise all 1", "broken harm foe 2", "begun draw you 1", "always seize theirs")
			}
			text += " | " + part
		}
		list = append(list, text)
	}
	return list
}

// scene lays so many things on the table, with features and marks by chance, and others elsewhere, among them.
func (c *chance) scene(t testing.TB, count int) scene {
	t.Helper()
	sc := scene{b: sealed(t, c.cards()...)}
	stamps := shuffled(c, []int{1, 2, 3, 5, 8, 13, 21, 34, 55, 89, 144, 233, 377, 610, 987, math.MaxInt})
	for count > 0 {
		x := api.Thing{Card: c.from(1, sc.b.Len()), Owner: c.from(0, 1), Place: one(c, offPlaces()...), Stamp: c.from(-1, 9), Hurt: c.from(-9, 9)}
		x.Marks = [4]int{c.from(-1, 9), c.from(-1, 9), one(c, -1, 0, 0, 0, 1, 2, 3, 99), c.from(-1, 9)}
		if card, _ := sc.b.At(x.Card); card.Kind != api.Spell && c.from(0, 4) > 0 {
			count--
			x.Place, x.Stamp = api.Table, stamps[count]
		}
		sc.things = append(sc.things, x)
		sc.fs = append(sc.fs, c.feature())
	}
	return sc
}

func (c *chance) feature() api.Feature {
	traits := one(c, 0, 0, set(api.Fast), set(api.Fast, api.Guard), set(api.Swift), set(api.Mute), set(api.Fixed))
	return api.Feature{Holder: c.from(0, 1), Suit: one(c, api.Air, api.Gold, 0), Traits: traits, Power: c.from(-9, 99), Health: one(c, 5, math.MinInt)}
}

// events are all that may be in a scene, each Harm with a Count by chance.
func (c *chance) events(sc scene) []api.Happening {
	list := []api.Happening{drawing(-1), drawing(-2)}
	for on := -2; on <= len(sc.things); on++ {
		if on >= 1 && sc.things[on-1].Place == api.Table {
			list = append(list, breaking(on))
		}
		if on < 0 || on >= 1 && sc.things[on-1].Place == api.Table {
			list = append(list, harm(on, one(c, -9999, -1, 0, 1, 2, 3, 5, 20, 99, 100, 4999, 5000, 9999)))
		}
	}
	for i := range list {
		list[i].Holder, list[i].Venom, list[i].Drain = c.from(-1, 2), c.from(0, 1) == 0, c.from(0, 1) == 0
	}
	return list
}

// model is a scene, with another reckoning of all that is asked of it.
type model struct{ scene }

// list is each swap of each thing that is not Mute, sorted behind that.
func (m model) list() []api.Standing {
	var list []api.Standing
	for i, x := range m.things {
		c, _ := m.b.At(x.Card)
		for place, p := range c.Parts {
			if x.Place == 4 && m.fs[i].Traits/32%2 == 0 && p.When == 6 {
				list = append(list, api.Standing{Thing: i + 1, Place: place, What: p})
			}
		}
	}
	slices.SortFunc(list, func(a, b api.Standing) int {
		if a.Thing == b.Thing {
			return a.Place - b.Place
		}
		if m.things[a.Thing-1].Stamp < m.things[b.Thing-1].Stamp {
			return -1
		}
		return 1
	})
	return list
}

func (m model) isUnit(on int) bool {
	if on < 1 || m.things[on-1].Place != 4 {
		return false
	}
	c, _ := m.b.At(m.things[on-1].Card)
	return c.Kind == 1
}

// about has all that a swap is about, players by their numbers.
func (m model) about(s api.Standing) map[int]struct{} {
	numbers := map[int]struct{}{}
	holder := m.fs[s.Thing-1].Holder
	for on := -2; on <= len(m.things); on++ {
		var f api.Feature
		if on >= 1 {
			f = m.fs[on-1]
		}
		if map[api.Whom]bool{
			api.You:    on < 0 && on == -1-holder,
			api.Foe:    on < 0 && on != -1-holder,
			api.Self:   on == s.Thing,
			api.Yours:  m.isUnit(on) && f.Holder == holder,
			api.Rest:   m.isUnit(on) && f.Holder == holder && on != s.Thing,
			api.Theirs: m.isUnit(on) && f.Holder == 1-holder,
			api.All:    m.isUnit(on),
			api.Dyed:   m.isUnit(on) && f.Suit == api.Gold,
			api.With:   m.isUnit(on) && f.Traits%2 == 1,
		}[s.What.Whom] {
			numbers[on] = struct{}{}
		}
	}
	return numbers
}

func (m model) swaps(s api.Standing, h api.Happening) bool {
	if _, ok := m.about(s)[h.On]; !ok {
		return false
	}
	if s.What.Verb != api.Instead {
		return h.Verb == api.Harm
	}
	if s.What.Whom == api.You || s.What.Whom == api.Foe {
		return h.Verb == api.Draw
	}
	return h.Verb == api.Break && m.things[h.On-1].Marks[2] >= s.What.Count
}

// step is what Next tells.
type step struct {
	after api.Happening
	by    api.Standing
	ok    bool
}

func (m model) next(h api.Happening, used []api.Standing) step {
	for _, s := range m.list() {
		if slices.Contains(used, s) || !m.swaps(s, h) {
			continue
		}
		switch s.What.Verb {
		case api.Less:
			h.Count -= s.What.Count
		case api.Twice:
			h.Count += h.Count
			if h.Count > 9999 {
				h.Count = 9999
			}
		case api.Turned:
			h.On = map[int]int{0: -2, 1: -1}[m.fs[s.Thing-1].Holder]
		case api.Instead:
			h = none
		}
		if h.Verb == api.Harm && h.Count <= 0 {
			h = none
		}
		return step{h, s, true}
	}
	return step{}
}

func (m model) swapped(h api.Happening) api.Swapped {
	if h.Verb == api.Harm {
		if h.Count <= 0 {
			return api.Swapped{}
		}
		if m.isUnit(h.On) && m.things[h.On-1].Marks[2] > 0 {
			return api.Swapped{Gone: 1}
		}
	}
	told := api.Swapped{After: h}
	for told.After != none {
		now := m.next(told.After, told.Used)
		if !now.ok {
			break
		}
		told.After, told.Used = now.after, append(told.Used, now.by)
	}
	if len(told.Used) > 0 && h.Verb == api.Break {
		told.Gone = told.Used[0].What.Count
	}
	if len(told.Used) > 0 && h.Verb == api.Draw {
		told.Life = told.Used[0].What.Count
	}
	return told
}

// seen counts how often what the tests are about was there: events that were swapped so often, breaks and draws that were swapped, harms that swaps made none, and swaps used out of the order of the list.
type seen struct {
	times            [5]int
	breaks, draws    int
	nones, backwards int
}

func (s *seen) note(h api.Happening, list []api.Standing, told api.Swapped) {
	s.times[min(len(told.Used), 4)]++
	last := -1
	for _, by := range told.Used {
		at := slices.Index(list, by)
		if at < last {
			s.backwards++
		}
		last = at
	}
	if len(told.Used) == 0 || told.After != none {
		return
	}
	switch h.Verb {
	case api.Harm:
		s.nones++
	case api.Break:
		s.breaks++
	case api.Draw:
		s.draws++
	}
}

// wantModel holds all calls against the model.
func wantModel(t *testing.T, sc scene, c *chance, s *seen) {
	t.Helper()
	m := model{sc}
	list := m.list()
	sc.wantList(t, pairs(list))
	for _, h := range c.events(sc) {
		told := m.swapped(h)
		sc.wantSwapped(t, h, told)
		s.note(h, list, told)
		for _, by := range list {
			sc.wantSwaps(t, by, h, m.swaps(by, h))
		}
		used := shuffled(c, list)[:c.from(0, len(list))]
		now := m.next(h, used)
		by := ""
		if now.ok {
			by = pairs([]api.Standing{now.by})
		}
		sc.wantNext(t, h, used, now.after, by)
	}
}

func TestAllCallsAgainstTheModel(t *testing.T) {
	var s seen
	c := &chance{21}
	for range 8 {
		for count := range 17 {
			wantModel(t, c.scene(t, count), c, &s)
		}
	}
	if slices.Min(s.times[:]) < 30 || s.breaks < 50 || s.draws < 50 || s.nones < 50 || s.backwards < 50 {
		t.Errorf("too little was there: %+v", s)
	}
}

// All is what Next tells, one by one.
func TestAllIsNextByNext(t *testing.T) {
	c := &chance{5}
	for range 100 {
		sc := c.scene(t, c.from(0, 16))
		for _, h := range c.events(sc) {
			if h.Verb == api.Harm && (h.Count < 1 || model{sc}.isUnit(h.On) && sc.things[h.On-1].Marks[2] > 0) {
				continue
			}
			want := api.Swapped{After: h}
			for ok := true; ok && want.After != none; {
				var after api.Happening
				var by api.Standing
				if after, by, ok = swap.Next(sc.b, sc.things, sc.fs, want.After, want.Used); ok {
					want.After, want.Used = after, append(want.Used, by)
				}
			}
			got, _ := swap.All(sc.b, sc.things, sc.fs, h)
			if got.After != want.After || !slices.Equal(got.Used, want.Used) {
				t.Errorf("All(%+v) = %+v, Next by Next %+v", h, got, want)
			}
		}
	}
}
