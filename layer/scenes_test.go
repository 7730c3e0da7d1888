package layer_test

import (
	"slices"
	"testing"

	"gambit/api"
	"gambit/book"
	"gambit/layer"
	"gambit/thing"
)

// The parts that stand, by their verbs.

func seize(w api.Whom) api.Part { return api.Part{When: api.Always, Verb: api.Seize, Whom: w} }

func dye(w api.Whom, s api.Suit) api.Part {
	return api.Part{When: api.Always, Verb: api.Dye, Whom: w, Suit: s}
}

func grant(w api.Whom, t api.Trait) api.Part {
	return api.Part{When: api.Always, Verb: api.Grant, Whom: w, Trait: t}
}

func strip(w api.Whom, t api.Trait) api.Part {
	return api.Part{When: api.Always, Verb: api.Strip, Whom: w, Trait: t}
}

func base(w api.Whom, count int) api.Part {
	return api.Part{When: api.Always, Verb: api.Base, Whom: w, Count: count}
}

func raise(w api.Whom, count int) api.Part {
	return api.Part{When: api.Always, Verb: api.Raise, Whom: w, Count: count}
}

// ofSuit is a part about Dyed.
func ofSuit(p api.Part, s api.Suit) api.Part {
	p.Whom, p.Suit = api.Dyed, s
	return p
}

// ofTrait is a part about With.
func ofTrait(p api.Part, t api.Trait) api.Part {
	p.Whom, p.Trait = api.With, t
	return p
}

func unit(name string, s api.Suit, parts ...api.Part) api.Card {
	return api.Card{Name: name, Suit: s, Kind: api.Unit, Cost: 1, Power: 2, Health: 2, Parts: parts}
}

func relic(name string, s api.Suit, parts ...api.Part) api.Card {
	return api.Card{Name: name, Suit: s, Kind: api.Relic, Cost: 1, Parts: parts}
}

// with is a card with traits.
func with(c api.Card, traits ...api.Trait) api.Card {
	c.Traits = set(traits...)
	return c
}

// set is a set of traits, by its bits.
func set(traits ...api.Trait) api.Traits {
	var bits api.Traits
	for _, t := range traits {
		bits |= 1 << (t - 1)
	}
	return bits
}

func open(t testing.TB, cards ...api.Card) *book.Book {
	t.Helper()
	b := book.New()
	for _, c := range cards {
		if e := b.Card(c); e != api.OK {
			t.Fatalf("Card(%+v) = %d", c, e)
		}
	}
	return b
}

func sealed(t testing.TB, cards ...api.Card) *book.Book {
	t.Helper()
	b := open(t, cards...)
	if e := b.Seal(); e != api.OK {
		t.Fatalf("Seal() = %d", e)
	}
	return b
}

// nobodys has what is no book.
func nobodys() map[string]*book.Book {
	return map[string]*book.Book{"nil": nil, "a literal": {}, "new": new(book.Book)}
}

// scene is what each call is handed ahead of all else.
type scene struct {
	b      *book.Book
	things []api.Thing
	fs     []api.Feature
}

// lain is a thing on the table: its card's name, its owner, its stamp.
type lain struct {
	name  string
	owner int
	stamp int
}

// add lays a thing somewhere, with its printed features.
func (sc *scene) add(t testing.TB, name string, x api.Thing) {
	t.Helper()
	n, e := sc.b.Find(name)
	if e != api.OK {
		t.Fatalf("Find(%q) = %d", name, e)
	}
	x.Card = n
	f, e := thing.Printed(sc.b, x)
	if e != api.OK {
		t.Fatalf("Printed(%+v) = %d", x, e)
	}
	sc.things, sc.fs = append(sc.things, x), append(sc.fs, f)
}

// lay is a scene with these things on the table, their features printed.
func lay(t testing.TB, b *book.Book, table ...lain) scene {
	t.Helper()
	sc := scene{b: b}
	for _, x := range table {
		sc.add(t, x.name, api.Thing{Owner: x.owner, Place: api.Table, Stamp: x.stamp})
	}
	return sc
}

// clone is the same scene, its lists in memory of their own.
func (sc scene) clone() scene {
	return scene{sc.b, slices.Clone(sc.things), slices.Clone(sc.fs)}
}

// effect is the part at a place of the card of the thing n.
func (sc scene) effect(t testing.TB, n, place int) api.Standing {
	t.Helper()
	c, e := thing.Card(sc.b, sc.things[n-1])
	if e != api.OK || place >= len(c.Parts) {
		t.Fatalf("the thing %d: its card is %+v, %d", n, c, e)
	}
	return api.Standing{Thing: n, Place: place, What: c.Parts[place]}
}

// effects are several of these, each told by its thing and its place.
func (sc scene) effects(t testing.TB, pairs ...[2]int) []api.Standing {
	t.Helper()
	var list []api.Standing
	for _, pair := range pairs {
		list = append(list, sc.effect(t, pair[0], pair[1]))
	}
	return list
}

// pairs tells effects by their things and places.
func pairs(list []api.Standing) [][2]int {
	var told [][2]int
	for _, s := range list {
		told = append(told, [2]int{s.Thing, s.Place})
	}
	return told
}

func (sc scene) wantAbout(t *testing.T, s api.Standing, want ...int) {
	t.Helper()
	got, e := layer.About(sc.b, sc.things, sc.fs, s)
	if e != api.OK || !slices.Equal(got, want) {
		t.Errorf("About(%+v) = %v, %d, want %v", s, got, e, want)
	}
}

func (sc scene) wantApply(t *testing.T, s api.Standing, want []api.Feature) {
	t.Helper()
	got, e := layer.Apply(sc.b, sc.things, sc.fs, s)
	if e != api.OK || !slices.Equal(got, want) {
		t.Errorf("Apply(%+v) = %+v, %d, want %+v", s, got, e, want)
	}
}

func (sc scene) wantDepends(t *testing.T, s, other api.Standing, want bool) {
	t.Helper()
	got, e := layer.Depends(sc.b, sc.things, sc.fs, s, other)
	if e != api.OK || got != want {
		t.Errorf("Depends(%+v, %+v) = %v, %d, want %v", s, other, got, e, want)
	}
}

func (sc scene) wantNext(t *testing.T, left []api.Standing, want int) {
	t.Helper()
	got, e := layer.Next(sc.b, sc.things, sc.fs, left)
	if e != api.OK || got != want {
		t.Errorf("Next(%+v) = %d, %d, want %d", left, got, e, want)
	}
}

func (sc scene) wantEffects(t *testing.T, k int, want ...[2]int) {
	t.Helper()
	got, e := layer.Effects(sc.b, sc.things, sc.fs, k)
	if e != api.OK || !slices.Equal(got, sc.effects(t, want...)) {
		t.Errorf("Effects(%d) = %+v, %d, want those of %v", k, got, e, want)
	}
}

// wantAll holds All against the features and the effects, in their order, and answers the scene behind that.
func (sc scene) wantAll(t *testing.T, k int, want []api.Feature, applied ...[2]int) scene {
	t.Helper()
	fs, got, e := layer.All(sc.b, sc.things, sc.fs, k)
	if e != api.OK || !slices.Equal(fs, want) || !slices.Equal(got, sc.effects(t, applied...)) {
		t.Errorf("All(%d) = %+v, %+v, %d, want %+v, those of %v", k, fs, got, e, want, applied)
	}
	return scene{sc.b, sc.things, fs}
}

// exampleCards are those of the chapter's examples.
func exampleCards() []api.Card {
	return []api.Card{
		relic("crown", api.Gold, ofSuit(raise(0, 1), api.Gold)),
		relic("brush", api.Gold, dye(api.Yours, api.Gold)),
		unit("bear", api.Earth),
		{Name: "thief", Suit: api.Void, Kind: api.Unit, Power: 1, Health: 1, Parts: []api.Part{seize(api.Theirs)}},
		{Name: "zap", Suit: api.Fire, Kind: api.Spell},
	}
}

// example is the scene of the chapter's examples.
func example(t testing.TB) scene {
	t.Helper()
	return lay(t, sealed(t, exampleCards()...), lain{"crown", 0, 1}, lain{"brush", 0, 2}, lain{"bear", 0, 3}, lain{"bear", 1, 4})
}

// changedAt is a list of features with some of them changed.
func changedAt(fs []api.Feature, by func(*api.Feature), numbers ...int) []api.Feature {
	list := slices.Clone(fs)
	for _, n := range numbers {
		by(&list[n-1])
	}
	return list
}

// The chapter's examples.
func TestExamples(t *testing.T) {
	sc := example(t)
	sc.wantEffects(t, 2, [2]int{2, 0})
	sc.wantEffects(t, 5, [2]int{1, 0})
	sc.wantEffects(t, 3)
	sc.wantAbout(t, sc.effect(t, 2, 0), 3)
	sc.wantAbout(t, sc.effect(t, 1, 0))
	gold := changedAt(sc.fs, func(f *api.Feature) { f.Suit = api.Gold }, 3)
	two := sc.wantAll(t, 2, gold, [2]int{2, 0})
	raised := changedAt(gold, func(f *api.Feature) { f.Power, f.Health = 3, 3 }, 3)
	two.wantAll(t, 5, raised, [2]int{1, 0})
	if _, e := layer.Depends(sc.b, sc.things, sc.fs, sc.effect(t, 1, 0), sc.effect(t, 2, 0)); e != api.ErrArg {
		t.Errorf("Depends of unlike layers = %d", e)
	}
	sc.wantNext(t, nil, -1)
	sc.add(t, "thief", api.Thing{Owner: 1, Place: api.Table, Stamp: 5})
	sc.wantAll(t, 1, changedAt(sc.fs, func(f *api.Feature) { f.Holder = 1 }, 3), [2]int{5, 0})
}
