package swap_test

import (
	"fmt"
	"slices"
	"strings"
	"testing"

	"gambit/api"
	"gambit/book"
	"gambit/card"
	"gambit/swap"
	"gambit/thing"
)

// open is an open book with cards, told by their texts. It has no marks: those that lie on things count here whether a book has them or not.
func open(t testing.TB, texts ...string) *book.Book {
	t.Helper()
	b := book.New()
	for _, text := range texts {
		c, e := card.Parse(text)
		if e != api.OK {
			t.Fatalf("Parse(%q) = %d", text, e)
		}
		if e := b.Card(c); e != api.OK {
			t.Fatalf("Card(%q) = %d", text, e)
		}
	}
	return b
}

func sealed(t testing.TB, texts ...string) *book.Book {
	t.Helper()
	b := open(t, texts...)
	if e := b.Seal(); e != api.OK {
		t.Fatalf("Seal() = %d", e)
	}
	return b
}

// scene is what each call is handed ahead of all else.
type scene struct {
	b      *book.Book
	things []api.Thing
	fs     []api.Feature
}

// clone is the same scene, its lists in memory of their own.
func (sc scene) clone() scene {
	return scene{sc.b, slices.Clone(sc.things), slices.Clone(sc.fs)}
}

// with is a scene with a thing behind the others, with its printed features.
func (sc scene) with(t testing.TB, name string, x api.Thing) scene {
	t.Helper()
	n, e := sc.b.Find(name)
	if e != api.OK {
		t.Fatalf("Find(%q) = %d", name, e)
	}
	x.Card = n
	f, e := thing.Printed(sc.b, x)
	if e != api.OK {
		t.Fatalf("Printed(%+v) = %d", x, e)
	}
	sc = sc.clone()
	sc.things, sc.fs = append(sc.things, x), append(sc.fs, f)
	return sc
}

// lay is a scene with things on the table, each told by the name of its card, its owner, its stamp and its Shield marks.
func lay(t testing.TB, b *book.Book, table ...string) scene {
	t.Helper()
	sc := scene{b: b}
	for _, line := range table {
		var name string
		x := api.Thing{Place: api.Table}
		if _, e := fmt.Sscan(line, &name, &x.Owner, &x.Stamp, &x.Marks[api.Shield-1]); e != nil {
			t.Fatalf("%q: %v", line, e)
		}
		sc = sc.with(t, name, x)
	}
	return sc
}

// off lays a thing of a card into each place off the table, behind the others.
func (sc scene) off(t testing.TB, name string) scene {
	t.Helper()
	for _, place := range offPlaces() {
		sc = sc.with(t, name, api.Thing{Owner: 1, Place: place})
	}
	return sc
}

func offPlaces() []api.Place { return []api.Place{api.Deck, api.Hand, api.Stacked, api.Grave} }

// set is a set of traits, by its bits.
func set(traits ...api.Trait) api.Traits {
	var bits api.Traits
	for _, t := range traits {
		bits |= 1 << (t - 1)
	}
	return bits
}

// The events.

func harm(on, count int) api.Happening {
	return api.Happening{Verb: api.Harm, On: on, Count: count}
}

func breaking(on int) api.Happening { return api.Happening{Verb: api.Break, On: on} }

func drawing(on int) api.Happening { return api.Happening{Verb: api.Draw, On: on} }

// none is an event that is none.
var none api.Happening

// swap is the part at a place of the card of the thing n.
func (sc scene) swap(t testing.TB, n, place int) api.Standing {
	t.Helper()
	c, e := thing.Card(sc.b, sc.things[n-1])
	if e != api.OK || place >= len(c.Parts) {
		t.Fatalf("the thing %d: its card is %+v, %d", n, c, e)
	}
	return api.Standing{Thing: n, Place: place, What: c.Parts[place]}
}

// swaps are several of these, told by a text like that of pairs.
func (sc scene) swaps(t testing.TB, text string) []api.Standing {
	t.Helper()
	var list []api.Standing
	for _, word := range strings.Fields(text) {
		var n, place int
		if _, e := fmt.Sscanf(word, "%d.%d", &n, &place); e != nil {
			t.Fatalf("%q: %v", text, e)
		}
		list = append(list, sc.swap(t, n, place))
	}
	return list
}

// pairs tells swaps by their things and places.
func pairs(list []api.Standing) string {
	var texts []string
	for _, s := range list {
		texts = append(texts, fmt.Sprintf("%d.%d", s.Thing, s.Place))
	}
	return strings.Join(texts, " ")
}

func (sc scene) wantList(t *testing.T, want string) {
	t.Helper()
	got, e := swap.List(sc.b, sc.things, sc.fs)
	if e != api.OK || !slices.Equal(got, sc.swaps(t, want)) {
		t.Errorf("List = %+v, %d, want those of %q", got, e, want)
	}
}

func (sc scene) wantSwaps(t *testing.T, s api.Standing, h api.Happening, want bool) {
	t.Helper()
	if got := swap.Swaps(sc.b, sc.things, sc.fs, s, h); got != want {
		t.Errorf("Swaps(%+v, %+v) = %v, want %v", s, h, got, want)
	}
}

// wantNext holds Next against the event, and the swap by its text: none of "".
func (sc scene) wantNext(t *testing.T, h api.Happening, used []api.Standing, after api.Happening, want string) {
	t.Helper()
	var by api.Standing
	for _, s := range sc.swaps(t, want) {
		by = s
	}
	got, s, ok := swap.Next(sc.b, sc.things, sc.fs, h, used)
	if got != after || s != by || ok != (want != "") {
		t.Errorf("Next(%+v, %q) = %+v, %+v, %v, want %+v, %q", h, pairs(used), got, s, ok, after, want)
	}
}

// wantAll holds All against the event, the swaps by their text, and how many Shield marks are gone.
func (sc scene) wantAll(t *testing.T, h, after api.Happening, used string, gone int) {
	t.Helper()
	sc.wantSwapped(t, h, api.Swapped{After: after, Used: sc.swaps(t, used), Gone: gone})
}

func (sc scene) wantSwapped(t *testing.T, h api.Happening, want api.Swapped) {
	t.Helper()
	got, e := swap.All(sc.b, sc.things, sc.fs, h)
	if e != api.OK || !same(got, want) {
		t.Errorf("All(%+v) = %+v, %d, want %+v", h, got, e, want)
	}
}

func same(a, b api.Swapped) bool {
	return a.After == b.After && slices.Equal(a.Used, b.Used) && a.Gone == b.Gone && a.Life == b.Life
}

// example is the scene of the chapter's examples.
func example(t testing.TB) scene {
	t.Helper()
	b := sealed(t,
		"rampart earth relic 3 | always raise dyed 1 earth | always grant rest guard | rather less yours 1",
		"golem earth unit 5 4/5 | struck mend you 2 | rather instead self 1 | played call foe 1 ember",
		"hollow void unit 3 2/4 | rather twice foe | rather turned you",
		"rock earth unit 1 1/1",
		"ember fire unit 0 1/1 token",
	)
	return lay(t, b, "rampart 0 1 0", "golem 0 2 1", "hollow 1 3 0", "rock 0 4 0")
}

// The chapter's examples.
func TestExamples(t *testing.T) {
	sc := example(t)
	sc.wantList(t, "1.2 2.1 3.0 3.1")
	sc.wantAll(t, harm(4, 3), harm(4, 2), "1.2", 0)
	sc.wantAll(t, harm(-1, 3), harm(-1, 6), "3.0", 0)
	sc.wantAll(t, harm(2, 3), none, "", 1)
	sc.wantAll(t, harm(4, 1), none, "1.2", 0)
	sc.wantAll(t, harm(-2, 5), harm(-1, 10), "3.1 3.0", 0)
	sc.wantAll(t, breaking(2), none, "2.1", 1)
	sc.wantAll(t, breaking(4), breaking(4), "", 0)
	sc.wantAll(t, drawing(-1), drawing(-1), "", 0)
	wantMayNotBe(t, sc, api.Happening{Verb: api.Mend, On: -1})
	wantMayNotBe(t, sc, breaking(-1))
}
