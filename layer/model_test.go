package layer_test

import (
	"cmp"
	"math"
	"slices"
	"testing"

	"gambit/api"
	"gambit/layer"
	"gambit/pile"
)

// All six calls against a second reckoning, written by the chapter's words, of scenes by chance.

// chance tells numbers out of pile's generator.
type chance struct{ state uint64 }

// from tells a number from low to high.
func (c *chance) from(low, high int) int {
	var number uint64
	number, c.state = pile.Next(c.state)
	return low + int(number%uint64(high-low+1))
}

// one tells one of a list.
func one[T any](c *chance, list ...T) T { return list[c.from(0, len(list)-1)] }

// part is one that stands and may be.
func (c *chance) part() api.Part {
	verb := one(c, api.Seize, api.Seize, api.Dye, api.Grant, api.Strip, api.Strip, api.Base, api.Raise)
	p := api.Part{When: api.Always, Verb: verb, Whom: one(c, api.Self, api.Yours, api.Theirs, api.Theirs, api.All, api.Rest, api.With, api.With)}
	if verb != api.Dye && c.from(0, 5) == 0 {
		p.Whom = api.Dyed
	}
	if verb == api.Dye || p.Whom == api.Dyed {
		p.Suit = one(c, api.Air, api.Gold)
	}
	if verb == api.Grant || verb == api.Strip || p.Whom == api.With {
		p.Trait = one(c, api.Fast, api.Fast, api.Mute, api.Swift)
	}
	switch verb {
	case api.Base:
		p.Count = c.from(0, 99)
	case api.Raise:
		p.Count = one(c, -99, -3, 1, 4, 99)
	}
	return p
}

// cards has units and relics with up to four parts, of which some do not stand.
func (c *chance) cards() []api.Card {
	list := []api.Card{{Name: "zap", Suit: api.Air, Kind: api.Spell}}
	for i := range 10 {
		x := api.Card{Name: string([]byte{'a' + byte(i)}), Suit: one(c, api.Air, api.Gold), Kind: api.Unit, Power: 1, Health: 1}
		if c.from(0, 3) == 0 {
			x.Kind, x.Power, x.Health = api.Relic, 0, 0
		}
		for range c.from(0, 4) {
			p := c.part()
			if c.from(0, 5) == 0 {
				p = api.Part{When: api.Rather, Verb: api.Twice, Whom: api.All}
			}
			x.Parts = append(x.Parts, p)
		}
		list = append(list, x)
	}
	return list
}

// scene lays so many things on the table, with features by chance, and others elsewhere, among them.
func (c *chance) scene(t testing.TB, count int) scene {
	sc := scene{b: sealed(t, c.cards()...)}
	stamps, _ := pile.Shuffle([]int{1, 2, 3, 5, 8, 13, 21, 34, 55, 89, 144, 233, 377, 610, 987, math.MaxInt}, c.state)
	for count > 0 {
		x := api.Thing{Card: c.from(1, sc.b.Len()), Owner: c.from(0, 1), Place: one(c, api.Deck, api.Hand, api.Stacked, api.Grave), Stamp: c.from(-1, 9)}
		if card, _ := sc.b.At(x.Card); card.Kind != api.Spell && c.from(0, 4) > 0 {
			count--
			x.Place, x.Stamp = api.Table, stamps[count]
		}
		sc.things = append(sc.things, x)
		sc.fs = append(sc.fs, c.feature())
	}
	return sc
}

func (c *chance) feature() api.Feature {
	return api.Feature{Holder: c.from(0, 1), Suit: one(c, api.Air, api.Gold, 0), Traits: one(c, 0, 0, set(api.Fast), set(api.Swift), set(api.Fast, api.Guard), set(api.Fast, api.Mute)), Power: c.from(-9, 99), Health: one(c, 5, math.MinInt, math.MaxInt)}
}

// model is a scene, with another reckoning of all that is asked of it.
type model struct{ scene }

// byStamp has the numbers of the things on the table.
func (m model) byStamp() []int {
	var numbers []int
	for i, x := range m.things {
		if x.Place == 4 {
			numbers = append(numbers, i+1)
		}
	}
	slices.SortFunc(numbers, func(a, b int) int { return cmp.Compare(m.things[a-1].Stamp, m.things[b-1].Stamp) })
	return numbers
}

func (m model) about(s api.Standing) []int {
	own := m.fs[s.Thing-1]
	var list []int
	for _, n := range m.byStamp() {
		f := m.fs[n-1]
		card, _ := m.b.At(m.things[n-1].Card)
		is := map[api.Whom]bool{
			api.Yours:  f.Holder == own.Holder,
			api.Rest:   f.Holder == own.Holder && n != s.Thing,
			api.Theirs: f.Holder == 1-own.Holder,
			api.All:    true,
			api.Dyed:   f.Suit == s.What.Suit,
			api.With:   s.What.Trait > 0 && f.Traits/(1<<(s.What.Trait-1))%2 == 1,
		}
		if s.What.Whom == api.Self && n == s.Thing || card.Kind == 1 && is[s.What.Whom] {
			list = append(list, n)
		}
	}
	return list
}

func (m model) apply(s api.Standing) model {
	numbers, holder, p := m.about(s), m.fs[s.Thing-1].Holder, s.What
	by := map[api.Verb]func(*api.Feature){
		api.Seize: func(f *api.Feature) { f.Holder = holder },
		api.Dye:   func(f *api.Feature) { f.Suit = p.Suit },
		api.Grant: func(f *api.Feature) { f.Traits |= set(p.Trait) },
		api.Strip: func(f *api.Feature) { f.Traits -= f.Traits & set(p.Trait) },
		api.Base:  func(f *api.Feature) { f.Power, f.Health = p.Count, p.Count },
		api.Raise: func(f *api.Feature) { f.Power, f.Health = sum(f.Power, p.Count), sum(f.Health, p.Count) },
	}
	m.fs = changedAt(m.fs, by[p.Verb], numbers...)
	return m
}

// sum goes round.
func sum(a, b int) int { return int(uint64(a) + uint64(b)) }

func (m model) depends(s, other api.Standing) bool {
	return !slices.Equal(m.about(s), m.apply(other).about(s))
}

// next tells what comes next: of those that are free, else of all, the first.
func (m model) next(left []api.Standing) int {
	var free, all []int
	for i, s := range left {
		all = append(all, i)
		if !slices.ContainsFunc(left, func(other api.Standing) bool { return other != s && m.depends(s, other) }) {
			free = append(free, i)
		}
	}
	if len(free) == 0 {
		free = all
	}
	if len(free) == 0 {
		return -1
	}
	return slices.MinFunc(free, func(a, b int) int { return m.compare(left[a], left[b]) })
}

func (m model) compare(a, b api.Standing) int {
	return cmp.Or(cmp.Compare(m.things[a.Thing-1].Stamp, m.things[b.Thing-1].Stamp), cmp.Compare(a.Place, b.Place))
}

// layers tells a verb's layer.
func layers() map[api.Verb]int {
	return map[api.Verb]int{api.Seize: 1, api.Dye: 2, api.Grant: 3, api.Strip: 3, api.Base: 4, api.Raise: 5}
}

func (m model) effects(k int) []api.Standing {
	var list []api.Standing
	for i, x := range m.things {
		card, _ := m.b.At(x.Card)
		for place, p := range card.Parts {
			if x.Place == 4 && m.fs[i].Traits&32 == 0 && layers()[p.Verb] == k {
				list = append(list, api.Standing{Thing: i + 1, Place: place, What: p})
			}
		}
	}
	slices.SortFunc(list, m.compare)
	return list
}

func (m model) all(k int) (model, []api.Standing) {
	left := m.effects(k)
	var applied []api.Standing
	for len(left) > 0 {
		s := left[m.next(left)]
		m, applied = m.apply(s), append(applied, s)
		left = slices.DeleteFunc(left, func(other api.Standing) bool { return other == s })
	}
	return m, applied
}

// seen counts how often what the tests are about was there.
type seen struct{ depends, not, circles, orders int }

// wantModel holds all calls against the model, those of a list in an order by chance.
func wantModel(t *testing.T, sc scene, c *chance, s *seen) {
	t.Helper()
	m := model{sc}
	for k := 1; k <= 5; k++ {
		effects := m.effects(k)
		sc.wantEffects(t, k, pairs(effects)...)
		behind, applied := m.all(k)
		sc.wantAll(t, k, behind.fs, pairs(applied)...)
		if !slices.Equal(effects, applied) {
			s.orders++
		}
		for i, x := range effects {
			sc.wantAbout(t, x, m.about(x)...)
			sc.wantApply(t, x, m.apply(x).fs)
			if other := effects[c.from(0, len(effects)-1)]; other != x {
				want := m.depends(effects[i], other)
				sc.wantDepends(t, effects[i], other, want)
				if want {
					s.depends++
				} else {
					s.not++
				}
			}
		}
		for range 4 {
			wantModelNext(t, m, effects, c, s)
		}
	}
}

// wantModelNext asks for the next of some of the effects.
func wantModelNext(t *testing.T, m model, effects []api.Standing, c *chance, s *seen) {
	t.Helper()
	order := make([]int, len(effects))
	for i := range order {
		order[i] = i
	}
	order, c.state = pile.Shuffle(order, c.state)
	var left []api.Standing
	for _, i := range order[:c.from(0, len(order))] {
		left = append(left, effects[i])
	}
	want := m.next(left)
	m.wantNext(t, left, want)
	if want >= 0 && slices.ContainsFunc(left, func(other api.Standing) bool { return other != left[want] && m.depends(left[want], other) }) {
		s.circles++
	}
}

func TestAllCallsAgainstTheModel(t *testing.T) {
	var s seen
	c := &chance{19}
	for range 40 {
		for count := range 17 {
			wantModel(t, c.scene(t, count), c, &s)
		}
	}
	if s.depends < 300 || s.not < 300 || s.circles < 30 || s.orders < 50 {
		t.Errorf("too little was there: %+v", s)
	}
}

// The layers one behind the other, as the view has them.
func TestLayersOneBehindTheOther(t *testing.T) {
	c := &chance{57}
	for range 300 {
		sc := c.scene(t, c.from(0, 16))
		for k := 1; k <= 5; k++ {
			want, applied := model{sc}.all(k)
			sc = sc.wantAll(t, k, want.fs, pairs(applied)...)
		}
	}
}

// Next and Apply, again and again, are All.
func TestAllIsNextAndApply(t *testing.T) {
	c := &chance{3}
	for range 200 {
		sc := c.scene(t, c.from(0, 10))
		for k := 1; k <= 5; k++ {
			now := sc
			left, _ := layer.Effects(sc.b, sc.things, sc.fs, k)
			var applied [][2]int
			for len(left) > 0 {
				next, _ := layer.Next(now.b, now.things, now.fs, left)
				applied = append(applied, [2]int{left[next].Thing, left[next].Place})
				now.fs, _ = layer.Apply(now.b, now.things, now.fs, left[next])
				left = slices.Delete(left, next, next+1)
			}
			sc.wantAll(t, k, now.fs, applied...)
		}
	}
}
