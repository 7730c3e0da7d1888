package event_test

import (
	"fmt"
	"slices"
	"strings"
	"testing"

	"gambit/api"
	"gambit/book"
	"gambit/card"
	"gambit/event"
	"gambit/view"
)

// open is an open book with cards, told by their texts, and the four marks, as the suits have them.
func open(t testing.TB, texts ...string) *book.Book {
	t.Helper()
	b := book.New()
	for _, text := range texts {
		c, e := card.Parse(text)
		if e != api.OK {
			t.Fatalf("Parse(%q) = %d", text, e)
		}
		if e := b.Card(c); e != api.OK {
			t.Fatalf("Card(%q) = %d", text, e)
		}
	}
	for _, m := range []api.MarkInfo{{Mark: api.Up, Name: "up", Power: 1, Health: 1}, {Mark: api.Down, Name: "down", Power: -1, Health: -1}, {Mark: api.Shield, Name: "shield"}, {Mark: api.Charge, Name: "charge"}} {
		if e := b.Mark(m); e != api.OK {
			t.Fatalf("Mark(%+v) = %d", m, e)
		}
	}
	return b
}

func sealed(t testing.TB, texts ...string) *book.Book {
	t.Helper()
	b := open(t, texts...)
	if e := b.Seal(); e != api.OK {
		t.Fatalf("Seal() = %d", e)
	}
	return b
}

// cards are those of most tests.
func cards() []string {
	return []string{
		"bear earth unit 2 2/2",
		"ox earth unit 3 1/9",
		"imp fire unit 1 1/1 | broken harm foe 1 | begun gain you 1 | broken draw you 1",
		"ghost void unit 1 1/1 +mute | broken harm foe 1",
		"nest gold relic 2",
		"bomb fire relic 2 | broken harm all 1",
		"zap fire spell 1 | played harm it 3",
		"wolf air unit 0 1/1 token | played mend you 1 | begun gain you 1 | played draw you 1",
		"moth fire unit 0 1/1 | played gain you 1 | broken mend you 1 | played draw you 1",
		"charm gold relic 0 token | played put self 1 1",
		// Standing.
		"crown gold relic 1 | always raise yours 1",
		"lord gold unit 3 1/1 | always raise rest 1",
		"pit void relic 1 | always raise all -1",
		"doom void relic 1 | always raise all -1 | played gain you 1",
		"hush void relic 1 | always grant all mute",
		"thief void relic 2 | always seize theirs",
		"rogue void unit 2 1/1 | always seize theirs",
		// Swaps.
		"wall earth relic 3 | rather less yours 1",
		"golem earth unit 5 4/5 | rather instead self 1 | broken gain you 1",
		"curse void relic 3 | rather twice foe",
		"mirror water relic 3 | rather turned you",
		"prism water relic 3 | rather turned yours",
		"well water relic 1 | rather instead you 2",
		"fiend void unit 2 1/1 | rather twice you",
		"shell water relic 1 | rather less you 1",
	}
}

// scene is a book and a state.
type scene struct {
	b *book.Book
	s api.State
}

// places are the words for where things are.
func places() []string { return []string{"", "deck", "hand", "stack", "table", "grave"} }

// lay is a scene of things, each told by the name of its card, its owner and where it is: on the table the first has the stamp 1, and so on; decks, hands and the stack have them in their order.
func lay(t testing.TB, b *book.Book, lines ...string) scene {
	t.Helper()
	sc := scene{b, api.State{Life: [2]int{20, 20}, Phase: api.Main, Stamp: 1}}
	for _, line := range lines {
		sc = sc.with(t, line)
	}
	return sc
}

// table is a scene of cards' own book.
func table(t testing.TB, lines ...string) scene {
	t.Helper()
	return lay(t, sealed(t, cards()...), lines...)
}

// number is the number of a name's card.
func number(t testing.TB, b *book.Book, name string) int {
	t.Helper()
	n, e := b.Find(name)
	if e != api.OK {
		t.Fatalf("Find(%q) = %d", name, e)
	}
	return n
}

// with is a scene with a thing behind the others.
func (sc scene) with(t testing.TB, line string) scene {
	t.Helper()
	var name, place string
	var x api.Thing
	if _, e := fmt.Sscan(line, &name, &x.Owner, &place); e != nil {
		t.Fatalf("%q: %v", line, e)
	}
	x.Card, x.Place = number(t, sc.b, name), api.Place(slices.Index(places(), place))
	return sc.by(func(s *api.State) {
		s.Things = append(s.Things, x)
		come(s, len(s.Things), x.Place)
		s.Things[len(s.Things)-1].Fresh = false
		if x.Place == api.Stacked {
			s.Stack = append(s.Stack, api.Item{Thing: len(s.Things), Holder: x.Owner})
		}
	})
}

// by is a scene with something changed.
func (sc scene) by(change func(*api.State)) scene {
	s := clone(sc.s)
	change(&s)
	return scene{sc.b, s}
}

// clone is a state in memory of its own.
func clone(s api.State) api.State {
	s.Things, s.Stack = slices.Clone(s.Things), slices.Clone(s.Stack)
	for who := range 2 {
		s.Decks[who], s.Hands[who] = slices.Clone(s.Decks[who]), slices.Clone(s.Hands[who])
	}
	return s
}

// What is to be of a state, written by DOC.md's words.

// come lets things come to a place, one by one.
func come(s *api.State, n int, to api.Place) {
	x := &s.Things[n-1]
	for _, lists := range []*[2][]int{&s.Decks, &s.Hands} {
		lists[x.Owner] = slices.DeleteFunc(lists[x.Owner], func(other int) bool { return other == n })
	}
	*x = api.Thing{Card: x.Card, Owner: x.Owner, Place: to}
	switch to {
	case api.Deck:
		s.Decks[x.Owner] = append(s.Decks[x.Owner], n)
	case api.Hand:
		s.Hands[x.Owner] = append(s.Hands[x.Owner], n)
	case api.Table:
		x.Stamp, x.Fresh = s.Stamp, true
		s.Stamp++
	}
}

// item lays a part's item on the stack.
func item(s *api.State, thing, part, holder int) {
	s.Stack = append(s.Stack, api.Item{Thing: thing, Part: part, Holder: holder})
}

// sameState tells whether two states are the same, lists nil or empty alike.
func sameState(a, b api.State) bool { return told(a) == told(b) }

// told tells a state as a text, field by field.
func told(s api.State) string {
	var text strings.Builder
	fmt.Fprintf(&text, "life %v mana %v of %v nothing %v turn %d phase %d word %d passes %d stamp %d actions %d over %v winner %d\n",
		s.Life, s.Mana, s.Most, s.Nothing, s.Turn, s.Phase, s.Word, s.Passes, s.Stamp, s.Actions, s.Over, s.Winner)
	for i, x := range s.Things {
		fmt.Fprintf(&text, "%d: %+v\n", i+1, x)
	}
	fmt.Fprintf(&text, "decks %v hands %v stack %v", s.Decks, s.Hands, s.Stack)
	return text.String()
}

// world is a new world of a scene.
func (sc scene) world(t testing.TB) *event.World {
	t.Helper()
	w, e := event.New(sc.b, sc.s)
	if e != api.OK || w == nil {
		t.Fatalf("New = %v, %d of %s", w, e, told(sc.s))
	}
	return w
}

// wantWorld holds all that a world tells against a state that may be, and a count.
func (sc scene) wantWorld(t testing.TB, w *event.World, want api.State, count int) {
	t.Helper()
	got := w.State()
	if !sameState(got, want) {
		t.Errorf("the state is\n%s\nwant\n%s", told(got), told(want))
	}
	if w.Count() != count {
		t.Errorf("Count() = %d, want %d", w.Count(), count)
	}
	fs, e := view.Of(sc.b, got.Things)
	if e != api.OK || !slices.Equal(w.Features(), fs) {
		t.Errorf("Features() = %+v, want %+v, %d", w.Features(), fs, e)
	}
	if !event.May(sc.b, got) {
		t.Errorf("the state may not be:\n%s", told(got))
	}
}

// wantDo does a deed in a new world of a scene, and holds what it comes to against the scene's state, changed, and how many events began. It tells that world.
func (sc scene) wantDo(t testing.TB, d api.Deed, count int, change func(*api.State)) *event.World {
	t.Helper()
	w := sc.world(t)
	if e := w.Do(d); e != api.OK {
		t.Errorf("Do(%+v) = %d", d, e)
	}
	sc.wantWorld(t, w, sc.by(change).s, count)
	return w
}

// wantNone: a deed makes no event, and nothing is settled.
func (sc scene) wantNone(t testing.TB, d api.Deed) {
	t.Helper()
	sc.wantDo(t, d, 0, func(*api.State) {})
}

// The deeds.

func harm(on, count int) api.Deed { return api.Deed{Verb: api.Harm, On: on, Count: count} }

func mend(on, count int) api.Deed { return api.Deed{Verb: api.Mend, On: on, Count: count} }

func breaking(on int) api.Deed { return api.Deed{Verb: api.Break, On: on} }

func back(on int) api.Deed { return api.Deed{Verb: api.Back, On: on} }

func draw(on, count int) api.Deed { return api.Deed{Verb: api.Draw, On: on, Count: count} }

func drop(on, count int) api.Deed { return api.Deed{Verb: api.Drop, On: on, Count: count} }

func gain(on, count int) api.Deed { return api.Deed{Verb: api.Gain, On: on, Count: count} }

func call(on, count int, name string) api.Deed {
	return api.Deed{Verb: api.Call, On: on, Count: count, Name: name}
}

func put(on, count int, m api.Mark) api.Deed {
	return api.Deed{Verb: api.Put, On: on, Count: count, Mark: m}
}

// spend begins so many events in a new moment of a world, which change nothing where the player 0 has no mana.
func spend(t testing.TB, w *event.World, count int) {
	t.Helper()
	w.Begin()
	for range count {
		if e := w.Do(gain(-1, -10)); e != api.OK {
			t.Fatalf("Do = %d", e)
		}
	}
	if w.Count() != count {
		t.Fatalf("Count() = %d, want %d", w.Count(), count)
	}
}

// wantBounded does a deed that makes events with so many left, and holds what it comes to against the changes: the first with none left, and so on. The last one is all that it does.
func (sc scene) wantBounded(t testing.TB, d api.Deed, changes ...func(*api.State)) {
	t.Helper()
	for left := range len(changes) + 1 {
		w := sc.world(t)
		spend(t, w, 256-left)
		if e := w.Do(d); e != api.OK {
			t.Errorf("Do(%+v) = %d", d, e)
		}
		sc.wantWorld(t, w, sc.by(changes[min(left, len(changes)-1)]).s, 256-max(0, left-len(changes)+1))
	}
}

// example is the scene of the chapter's examples.
func example(t testing.TB) scene {
	t.Helper()
	b := sealed(t, "bear earth unit 2 2/2", "imp fire unit 1 1/1 | broken harm foe 1", "zap fire spell 1")
	return lay(t, b, "bear 0 table", "imp 1 table", "bear 0 deck")
}

// The chapter's examples, each in the world behind the one ahead of it.
func TestExamples(t *testing.T) {
	sc := example(t)
	w, want := sc.world(t), clone(sc.s)
	next := func(d api.Deed, refused api.Errno, count int, change func(*api.State)) {
		t.Helper()
		w.Begin()
		if e := w.Do(d); e != refused {
			t.Errorf("Do(%+v) = %d, want %d", d, e, refused)
		}
		change(&want)
		sc.wantWorld(t, w, want, count)
	}
	nothing := func(*api.State) {}
	next(harm(1, 1), api.OK, 1, func(s *api.State) { s.Things[0].Hurt = 1 })
	if f := w.Features()[0]; f.Power != 2 || f.Health != 2 {
		t.Errorf("the bear is %+v", f)
	}
	next(api.Deed{Verb: api.Harm, On: 2, Count: 1, Drain: true}, api.OK, 3, func(s *api.State) {
		come(s, 2, api.Grave)
		item(s, 2, 1, 1)
		s.Life[0] = 21
	})
	next(draw(-1, 2), api.OK, 3, func(s *api.State) {
		come(s, 3, api.Hand)
		s.Nothing[0], s.Life[0] = 1, 20
	})
	for _, d := range []api.Deed{harm(3, 1), harm(1, 0)} {
		next(d, api.OK, 0, nothing)
	}
	next(harm(4, 1), api.ErrArg, 0, nothing)
	next(api.Deed{Verb: api.Raise, On: 1, Count: 1}, api.ErrArg, 0, nothing)
	next(call(-1, 1, "x"), api.ErrMissing, 0, nothing)
}
