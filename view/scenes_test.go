package view_test

import (
	"fmt"
	"slices"
	"strings"
	"testing"

	"gambit/api"
	"gambit/book"
	"gambit/card"
	"gambit/suit"
	"gambit/thing"
	"gambit/trait"
	"gambit/view"
)

// open is an open book with cards, told by their texts, and the marks up and down, as the suits have them.
func open(t testing.TB, texts ...string) *book.Book {
	t.Helper()
	b := book.New()
	for _, text := range texts {
		c, e := card.Parse(text)
		if e != api.OK {
			t.Fatalf("Parse(%q) = %d", text, e)
		}
		if e := b.Card(c); e != api.OK {
			t.Fatalf("Card(%q) = %d", text, e)
		}
	}
	for _, m := range []api.MarkInfo{{Mark: api.Up, Name: "up", Power: 1, Health: 1}, {Mark: api.Down, Name: "down", Power: -1, Health: -1}} {
		if e := b.Mark(m); e != api.OK {
			t.Fatalf("Mark(%+v) = %d", m, e)
		}
	}
	return b
}

// closed is a book, sealed.
func closed(t testing.TB, b *book.Book) *book.Book {
	t.Helper()
	if e := b.Seal(); e != api.OK {
		t.Fatalf("Seal() = %d", e)
	}
	return b
}

func sealed(t testing.TB, texts ...string) *book.Book {
	t.Helper()
	return closed(t, open(t, texts...))
}

// scene is what each call is handed ahead of all else.
type scene struct {
	b      *book.Book
	things []api.Thing
}

// clone is the same scene, its list in memory of its own.
func (sc scene) clone() scene { return scene{sc.b, slices.Clone(sc.things)} }

// thing is a thing of the card with a name.
func (sc scene) thing(t testing.TB, name string, x api.Thing) api.Thing {
	t.Helper()
	n, e := sc.b.Find(name)
	if e != api.OK {
		t.Fatalf("Find(%q) = %d", name, e)
	}
	x.Card = n
	return x
}

// lay is a scene with things on the table, each told by the name of its card, its owner and its stamp.
func lay(t testing.TB, b *book.Book, table ...string) scene {
	t.Helper()
	sc := scene{b: b}
	for _, line := range table {
		var name string
		x := api.Thing{Place: api.Table}
		if _, e := fmt.Sscan(line, &name, &x.Owner, &x.Stamp); e != nil {
			t.Fatalf("%q: %v", line, e)
		}
		sc.things = append(sc.things, sc.thing(t, name, x))
	}
	return sc
}

// off lays a thing of a card into each place off the table, behind the others.
func (sc scene) off(t testing.TB, name string) scene {
	t.Helper()
	sc = sc.clone()
	for _, place := range offPlaces() {
		sc.things = append(sc.things, sc.thing(t, name, api.Thing{Owner: 1, Place: place}))
	}
	return sc
}

func offPlaces() []api.Place { return []api.Place{api.Deck, api.Hand, api.Stacked, api.Grave} }

// told tells features as a text: holder, suit, power and health, traits.
func told(f api.Feature) string {
	if f == (api.Feature{}) {
		return "zero"
	}
	return fmt.Sprintf("%d %s %d/%d %s", f.Holder, suit.Name(f.Suit), f.Power, f.Health, trait.Print(f.Traits))
}

func toldAll(fs []api.Feature) []string {
	var list []string
	for _, f := range fs {
		list = append(list, told(f))
	}
	return list
}

// pairs tells effects by their things and places.
func pairs(list []api.Standing) string {
	var texts []string
	for _, s := range list {
		texts = append(texts, fmt.Sprintf("%d.%d", s.Thing, s.Place))
	}
	return strings.Join(texts, " ")
}

// wantParts: each effect has the part that stands at its place in its thing's card.
func (sc scene) wantParts(t *testing.T, list []api.Standing) {
	t.Helper()
	for _, s := range list {
		c, e := thing.Card(sc.b, sc.things[s.Thing-1])
		if e != api.OK || s.Place >= len(c.Parts) || c.Parts[s.Place] != s.What || s.What.When != api.Always {
			t.Errorf("%+v is no effect of %+v", s, c)
		}
	}
}

func (sc scene) wantBehind(t *testing.T, k int, want ...string) {
	t.Helper()
	got, e := view.Behind(sc.b, sc.things, k)
	if e != api.OK || !slices.Equal(toldAll(got), want) {
		t.Errorf("Behind(%d) = %q, %d, want %q", k, toldAll(got), e, want)
	}
}

func (sc scene) wantOf(t *testing.T, want ...string) {
	t.Helper()
	got, e := view.Of(sc.b, sc.things)
	if e != api.OK || !slices.Equal(toldAll(got), want) {
		t.Errorf("Of = %q, %d, want %q", toldAll(got), e, want)
	}
	sc.wantBehind(t, 6, want...)
}

func (sc scene) wantSteps(t *testing.T, want string) {
	t.Helper()
	got, e := view.Steps(sc.b, sc.things)
	if e != api.OK || pairs(got) != want {
		t.Errorf("Steps = %q, %d, want %q", pairs(got), e, want)
	}
	sc.wantParts(t, got)
}

func (sc scene) wantWhy(t *testing.T, n int, want string) {
	t.Helper()
	got, e := view.Why(sc.b, sc.things, n)
	if e != api.OK || pairs(got) != want {
		t.Errorf("Why(%d) = %q, %d, want %q", n, pairs(got), e, want)
	}
	sc.wantParts(t, got)
}

// example is the scene of the chapter's examples.
func example(t testing.TB) scene {
	t.Helper()
	return lay(t, sealed(t, exampleCards()...), "crown 0 1", "brush 0 2", "bear 0 3", "bear 1 4")
}

func exampleCards() []string {
	return []string{
		"crown gold relic 1 | always raise dyed 1 gold",
		"brush gold relic 1 | always dye yours gold",
		"bear earth unit 1 2/2",
		"thief void unit 1 1/1 | always seize theirs",
	}
}

// The chapter's examples.
func TestExamples(t *testing.T) {
	sc := example(t)
	sc.wantOf(t, "0 gold 0/0 -", "0 gold 0/0 -", "0 gold 3/3 -", "1 earth 2/2 -")
	for k, want := range map[int]string{0: "0 earth 2/2 -", 2: "0 gold 2/2 -", 5: "0 gold 3/3 -"} {
		sc.wantBehind(t, k, "0 gold 0/0 -", "0 gold 0/0 -", want, "1 earth 2/2 -")
	}
	sc.wantSteps(t, "2.0 1.0")
	sc.wantWhy(t, 3, "2.0 1.0")
	sc.wantWhy(t, 4, "")
	sc.wantWhy(t, 1, "")
	wantRefused(t, sc, asked{9, 7}, api.ErrMissing, "Why")
	wantRefused(t, sc, asked{9, 7}, api.ErrArg, "Behind")
	marked := sc.clone()
	marked.things[3].Marks = [4]int{2, 1}
	marked.wantOf(t, "0 gold 0/0 -", "0 gold 0/0 -", "0 gold 3/3 -", "1 earth 3/3 -")
	wantRefused(t, scene{open(t, exampleCards()...), sc.things}, asked{1, 0}, api.ErrArg)
	marked.things[0].Card = 99
	wantRefused(t, marked, asked{1, 0}, api.ErrArg)
}
