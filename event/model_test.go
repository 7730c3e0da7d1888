package event_test

import (
	"fmt"
	"slices"
	"testing"

	"gambit/api"
	"gambit/book"
	"gambit/event"
	"gambit/pile"
	"gambit/swap"
	"gambit/view"
)

// All calls against a second reckoning, written by DOC.md's words, in worlds by chance; and P22.7 behind each of them.

// chance tells numbers out of pile's generator.
type chance struct{ state uint64 }

// from tells a number from low to high.
func (c *chance) from(low, high int) int {
	var number uint64
	number, c.state = pile.Next(c.state)
	return low + int(number%uint64(high-low+1))
}

// one tells one of a list.
func one[T any](c *chance, list ...T) T { return list[c.from(0, len(list)-1)] }

// part is one by chance, told as a text, of a card that comes to the table.
func (c *chance) part() string {
	return one(c,
		"played draw you 1", "played gain you 1", "broken mend you 1", "broken harm foe 1", "begun gain you 1",
		"always seize theirs", "always raise all -1", "always raise rest 1", "always raise dyed 1 gold", "always dye yours gold", "always grant yours mute", "always base dyed 2 air",
		"rather less yours 1", "rather less you 2", "rather twice foe", "rather twice all", "rather turned you", "rather turned yours", "rather turned self",
		"rather instead self 1", "rather instead yours 2", "rather instead you 2", "rather instead foe 1",
	)
}

// cards are spells, units and relics by chance, some of them tokens.
func (c *chance) cards() []string {
	list := []string{"zap air spell 1 | played harm it 3", "bare gold unit 1 1/3"}
	for i := range 10 {
		text := fmt.Sprintf("%c %s %s", 'a'+i, one(c, "air", "gold"), one(c, "relic 1", "unit 1 1/2", "unit 1 2/9", "unit 1 3/3", "unit 1 1/1"))
		text += one(c, "", "", " token")
		for range c.from(0, 3) {
			text += " | " + c.part()
		}
		list = append(list, text)
	}
	return list
}

// scene lays so many things, each where chance has it, as long as there is room.
func (c *chance) scene(t testing.TB, count int) scene {
	t.Helper()
	sc := lay(t, sealed(t, c.cards()...)).by(func(s *api.State) {
		s.Life, s.Mana, s.Nothing = [2]int{c.from(-5, 30), c.from(-5, 30)}, [2]int{c.from(0, 10), c.from(0, 10)}, [2]int{c.from(0, 9), one(c, 0, 9998)}
		s.Stamp = one(c, 1, 900)
	})
	placed := slices.Concat(places()[1:], []string{"table", "table", "table"})
	var lain [2]int
	for range count {
		c1, owner, place := c.from(1, sc.b.Len()), c.from(0, 1), one(c, placed...)
		card, _ := sc.b.At(c1)
		if place == "table" && (card.Kind == api.Spell || lain[owner] == 8) || place == "hand" && len(sc.s.Hands[owner]) == 10 || place == "stack" && len(sc.s.Stack) == 24 {
			place = "grave"
		}
		if place == "table" {
			lain[owner]++
		}
		sc = sc.with(t, fmt.Sprint(card.Name, " ", owner, " ", place))
		if place == "table" {
			x := &sc.s.Things[len(sc.s.Things)-1]
			x.Hurt, x.Marks = one(c, 0, 0, 0, 1), [4]int{one(c, 0, 0, 0, 1, 98), one(c, 0, 0, 0, 1), one(c, 0, 0, 0, 1, 3), c.from(0, 2)}
		}
	}
	return sc.by(func(s *api.State) { c.fillStack(sc.b, s, one(c, 0, 10, 21, 23)) })
}

// fillStack lays items of parts by chance on the stack, till so many stand there, if any thing has a part.
func (c *chance) fillStack(b *book.Book, s *api.State, count int) {
	for try := 0; try < 200 && len(s.Stack) < count; try++ {
		n := c.from(1, max(1, len(s.Things)))
		if n > len(s.Things) {
			return
		}
		if card, _ := b.At(s.Things[n-1].Card); len(card.Parts) > 0 {
			s.Stack = append(s.Stack, api.Item{Thing: n, Part: c.from(1, len(card.Parts)), Holder: c.from(0, 1), Meant: c.from(-2, len(s.Things))})
		}
	}
}

// deed is one by chance, now and then one that may not be.
func (c *chance) deed(m *model) api.Deed {
	d := api.Deed{
		Verb: one(c, append(verbs(), api.Harm, api.Draw, api.Call)...), On: c.from(-2, len(m.s.Things)), Count: one(c, 1, 1, 2, 3, 5, 30, 9999, 0, -1, -3),
		Mark: api.Mark(c.from(1, 4)), Name: one(c, "a", "b", "c", "d", "e", "f", "bare"), Holder: c.from(0, 1), Venom: c.from(0, 2) == 0, Drain: c.from(0, 2) == 0,
	}
	if d.Verb == api.Draw || d.Verb == api.Drop || d.Verb == api.Call {
		d.Count = one(c, 1, 1, 2, 3, 0, 12, 70)
	}
	if table := m.table(); len(table) > 0 && c.from(0, 2) > 0 {
		d.On = one(c, table...)
	}
	switch c.from(0, 60) {
	case 0:
		d.Name = one(c, "zap", "", "zz")
	case 1:
		d.On = one(c, -3, 0, len(m.s.Things)+1)
	case 2:
		d.Count = one(c, 10000, -10000)
	case 3:
		d.Holder, d.Mark = -1, 5
	}
	return d
}

// model is a world, reckoned another way.
type model struct {
	b     *book.Book
	s     api.State
	count int
	seen  *seen
}

// seen counts how often what the tests are about was there.
type seen struct {
	events, swapped, lost, settled, venom, drain, nothing, refused, called, noRoom, fullStack, came, fell, turned int
}

func (m *model) features() []api.Feature {
	fs, _ := view.Of(m.b, m.s.Things)
	return fs
}

func (m *model) card(n int) api.Card {
	c, _ := m.b.At(m.s.Things[n-1].Card)
	return c
}

// push lays the parts of a When on the stack, the last one first.
func (m *model) push(n int, when api.When, holder int) {
	parts := m.card(n).Parts
	for i := len(parts); i > 0; i-- {
		if parts[i-1].When != when {
			continue
		}
		if len(m.s.Stack) >= 24 {
			m.seen.fullStack++
			continue
		}
		m.s.Stack = append(m.s.Stack, api.Item{Thing: n, Part: i, Holder: holder})
	}
}

// swap tells an event behind its swaps, and whether it is one still.
func (m *model) swap(d api.Deed) (api.Deed, bool) {
	if d.Verb != api.Harm && d.Verb != api.Break && d.Verb != api.Draw {
		return d, true
	}
	told, _ := swap.All(m.b, m.s.Things, m.features(), api.Happening{Verb: d.Verb, On: d.On, Count: d.Count})
	if len(told.Used) > 0 || told.Gone > 0 {
		m.seen.swapped++
	}
	if told.Gone > 0 {
		m.s.Things[d.On-1].Marks[2] -= told.Gone
	}
	if told.Life > 0 {
		m.s.Life[-1-d.On] = min(m.s.Life[-1-d.On]+told.Life, 30)
	}
	if d.On > 0 && told.After.On < 0 {
		m.seen.turned++
	}
	d.On, d.Count = told.After.On, told.After.Count
	return d, told.After.Verb != 0
}

// event does one event with what follows on it, if one is left. It tells the thing that it made.
func (m *model) event(d api.Deed) int {
	if m.count == 256 {
		m.seen.lost++
		return 0
	}
	m.count++
	m.seen.events++
	d, is := m.swap(d)
	if !is {
		return 0
	}
	if d.On < 0 {
		return m.ofPlayer(d, -1-d.On)
	}
	x := &m.s.Things[d.On-1]
	switch d.Verb {
	case api.Harm:
		x.Hurt += d.Count
		if d.Venom {
			m.seen.venom++
			m.event(api.Deed{Verb: api.Break, On: d.On})
		}
		m.drain(d)
	case api.Mend:
		x.Hurt = max(x.Hurt-d.Count, 0)
	case api.Put:
		x.Marks[d.Mark-1] = max(0, min(99, x.Marks[d.Mark-1]+d.Count))
	case api.Break:
		f := m.features()[d.On-1]
		come(&m.s, d.On, api.Grave)
		if f.Traits/32%2 == 0 {
			m.push(d.On, api.Broken, f.Holder)
		}
	case api.Back:
		m.toHand(d.On, m.card(d.On).Token)
	}
	return 0
}

func (m *model) toHand(n int, token bool) {
	if token || len(m.s.Hands[m.s.Things[n-1].Owner]) >= 10 {
		come(&m.s, n, api.Grave)
		return
	}
	come(&m.s, n, api.Hand)
}

func (m *model) drain(d api.Deed) {
	if d.Drain {
		m.seen.drain++
		m.event(api.Deed{Verb: api.Mend, On: -1 - d.Holder, Count: d.Count})
	}
}

// ofPlayer does what an event does that is of a player.
func (m *model) ofPlayer(d api.Deed, p int) int {
	switch d.Verb {
	case api.Harm:
		m.s.Life[p] -= d.Count
		m.drain(d)
	case api.Mend:
		m.s.Life[p] = min(m.s.Life[p]+d.Count, 30)
	case api.Gain:
		m.s.Mana[p] = max(0, min(10, m.s.Mana[p]+d.Count))
	case api.Drop:
		if l := m.s.Hands[p]; len(l) > 0 {
			come(&m.s, l[len(l)-1], api.Grave)
		}
	case api.Draw:
		if l := m.s.Decks[p]; len(l) > 0 {
			m.toHand(l[0], false)
			return 0
		}
		m.seen.nothing++
		m.s.Nothing[p]++
		m.event(api.Deed{Verb: api.Harm, On: -1 - p, Count: min(m.s.Nothing[p], 9999)})
	case api.Call:
		if m.owned(p) >= 8 || len(m.s.Things) >= 2048 {
			m.seen.noRoom++
			return 0
		}
		n, _ := m.b.Find(d.Name)
		m.s.Things = append(m.s.Things, api.Thing{Card: n, Owner: p})
		come(&m.s, len(m.s.Things), api.Table)
		m.seen.called++
		return len(m.s.Things)
	}
	return 0
}

// table has the numbers of what lies on the table.
func (m *model) table() []int {
	var list []int
	for i, x := range m.s.Things {
		if x.Place == api.Table {
			list = append(list, i+1)
		}
	}
	return list
}

func (m *model) owned(p int) int {
	count := 0
	for _, x := range m.s.Things {
		if x.Place == api.Table && x.Owner == p {
			count++
		}
	}
	return count
}

// dying is the first unit, by stamp, of which no health is left.
func (m *model) dying() int {
	first := 0
	for i, f := range m.features() {
		x := m.s.Things[i]
		if x.Place == api.Table && m.card(i+1).Kind == api.Unit && f.Health-x.Hurt <= 0 && (first == 0 || x.Stamp < m.s.Things[first-1].Stamp) {
			first = i + 1
		}
	}
	return first
}

func (m *model) settle() {
	for m.dying() > 0 && m.count < 256 {
		m.seen.settled++
		m.event(api.Deed{Verb: api.Break, On: m.dying()})
	}
}

func (m *model) refused(d api.Deed) api.Errno {
	n, e := m.b.Find(d.Name)
	c, _ := m.b.At(n)
	switch {
	case d.On == 0 || d.On < -2 || d.On > len(m.s.Things):
		return api.ErrArg
	case usesCount(d.Verb) && (d.Count > 9999 || d.Count < -9999):
		return api.ErrArg
	case d.Verb == api.Harm && (d.Holder < 0 || d.Holder > 1), d.Verb == api.Put && (d.Mark < 1 || d.Mark > 4):
		return api.ErrArg
	case d.Verb == api.Call && e != api.OK:
		return api.ErrMissing
	case d.Verb == api.Call && c.Kind == api.Spell:
		return api.ErrCard
	}
	return api.OK
}

func (m *model) do(d api.Deed) api.Errno {
	if e := m.refused(d); e != api.OK {
		m.seen.refused++
		return e
	}
	isThing := d.On > 0
	if isThing && m.s.Things[d.On-1].Place != api.Table {
		return api.OK
	}
	isRelic := isThing && m.card(d.On).Kind == api.Relic
	times := 1
	switch d.Verb {
	case api.Harm, api.Mend:
		if d.Count < 1 || isRelic {
			return api.OK
		}
	case api.Break, api.Back, api.Put:
		if !isThing {
			return api.OK
		}
	default:
		if isThing {
			d.On = -1 - m.features()[d.On-1].Holder
		}
		if d.Verb != api.Gain {
			times = d.Count
		}
	}
	for ; times > 0; times-- {
		made := m.event(d)
		m.settle()
		if made > 0 {
			m.push(made, api.Played, -1-d.On)
		}
	}
	return api.OK
}

func (m *model) come(n int) (bool, api.Errno) {
	if n < 1 || n > len(m.s.Things) || m.s.Things[n-1].Place != api.Stacked {
		return false, api.ErrMissing
	}
	off(n)(&m.s)
	if m.card(n).Kind == api.Spell || m.owned(m.s.Things[n-1].Owner) == 8 {
		m.seen.fell++
		come(&m.s, n, api.Grave)
		return false, api.OK
	}
	m.seen.came++
	come(&m.s, n, api.Table)
	m.settle()
	return true, api.OK
}

func (m *model) pushed(l []api.Item) api.Errno {
	for _, i := range l {
		if i.Thing > len(m.s.Things) || i.Part < 1 || i.Part > len(m.card(i.Thing).Parts) {
			return api.ErrArg
		}
	}
	for len(l) > 0 && len(m.s.Stack) < 24 {
		m.s.Stack, l = append(m.s.Stack, l[0]), l[1:]
	}
	m.seen.fullStack += len(l)
	return api.OK
}

// step makes one call by chance, of a world and of the model, and tells what it was.
func step(t *testing.T, c *chance, w *event.World, m *model) string {
	t.Helper()
	switch c.from(0, 29) {
	case 0:
		w.Begin()
		m.count = 0
		return "Begin()"
	case 1:
		w.Settle()
		m.settle()
		return "Settle()"
	case 2, 3:
		n := c.from(-1, len(m.s.Things)+1)
		came, e := w.Come(n)
		if wantCame, want := m.come(n); came != wantCame || e != want {
			t.Errorf("Come(%d) = %v, %d, want %v, %d", n, came, e, wantCame, want)
		}
		return fmt.Sprintf("Come(%d)", n)
	case 4:
		i, came, ok := w.Take()
		top := len(m.s.Stack) - 1
		if top < 0 {
			wantTaken(t, i, api.Item{}, came, false, ok, false)
			return "Take() of none"
		}
		want, wantCame := m.s.Stack[top], false
		if want.Part == 0 {
			wantCame, _ = m.come(want.Thing)
		} else {
			m.s.Stack = m.s.Stack[:top]
		}
		wantTaken(t, i, want, came, wantCame, ok, true)
		return "Take()"
	case 5:
		var l []api.Item
		for range c.from(0, 3) {
			l = append(l, api.Item{Thing: c.from(1, len(m.s.Things)+1), Part: c.from(0, 2), Holder: c.from(0, 1), Meant: c.from(-2, len(m.s.Things))})
		}
		if got, want := w.Push(l), m.pushed(l); got != want {
			t.Errorf("Push(%v) = %d, want %d", l, got, want)
		}
		return "Push()"
	}
	d := c.deed(m)
	if got, want := w.Do(d), m.do(d); got != want {
		t.Errorf("Do(%+v) = %d, want %d", d, got, want)
	}
	return fmt.Sprintf("Do(%+v)", d)
}

func wantTaken(t *testing.T, i, wantItem api.Item, came, wantCame, ok, wantOK bool) {
	t.Helper()
	if i != wantItem || came != wantCame || ok != wantOK {
		t.Errorf("Take() = %+v, %v, %v, want %+v, %v, %v", i, came, ok, wantItem, wantCame, wantOK)
	}
}

// wantSound: P22.7 and P4 behind a call of a world, ahead of which its things were these.
func wantSound(t *testing.T, w *event.World, before []api.Thing, called bool) {
	t.Helper()
	s := w.State()
	if len(s.Things) < len(before) || !called && len(s.Things) > len(before) {
		t.Errorf("of %d things there are %d now", len(before), len(s.Things))
	}
	for i, x := range before {
		if s.Things[i].Card != x.Card || s.Things[i].Owner != x.Owner {
			t.Errorf("the thing %d is another one", i+1)
		}
	}
	if max(s.Life[0], s.Life[1]) > 30 || w.Count() > 256 || len(s.Stack) > 24 {
		t.Errorf("life %v, %d events, %d items", s.Life, w.Count(), len(s.Stack))
	}
	for i, x := range s.Things {
		where := 0
		for _, l := range [][]int{s.Decks[0], s.Decks[1], s.Hands[0], s.Hands[1]} {
			for _, n := range l {
				if n == i+1 {
					where++
				}
			}
		}
		for _, item := range s.Stack {
			if item.Thing == i+1 && item.Part == 0 {
				where++
			}
		}
		if lies := x.Place == api.Table || x.Place == api.Grave; where > 1 || lies == (where == 1) {
			t.Errorf("the thing %d, %+v, is in %d lists", i+1, x, where)
		}
	}
}

// wantWalk makes so many calls by chance, and holds the world against the model behind each.
func wantWalk(t *testing.T, c *chance, s *seen, things, steps int) {
	t.Helper()
	sc := c.scene(t, things)
	w := sc.world(t)
	m := &model{sc.b, clone(sc.s), 0, s}
	wantWorld := func(what string) {
		sc.wantWorld(t, w, m.s, m.count)
		if t.Failed() {
			t.Fatal("behind ", what)
		}
	}
	wantWorld("New")
	for range steps {
		before, count := clone(m.s).Things, m.count
		what := step(t, c, w, m)
		wantSound(t, w, before, what[:2] == "Do")
		if settled := what == "Settle()" || m.count > count; settled && m.count < 256 && m.dying() > 0 {
			t.Error("a unit stands of which no health is left")
		}
		wantWorld(what)
	}
}

func TestAllCallsAgainstTheModel(t *testing.T) {
	var s seen
	c := &chance{22}
	for i := range 200 {
		wantWalk(t, c, &s, i%50, 50)
	}
	least := slices.Min([]int{s.events / 50, s.swapped, s.lost, s.settled, s.venom, s.drain, s.nothing, s.refused, s.called, s.noRoom, s.fullStack, s.came, s.fell, s.turned})
	if least < 20 {
		t.Errorf("too little was there: %+v", s)
	}
}
