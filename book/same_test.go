package book_test

import (
	"reflect"
	"slices"
	"strings"
	"sync"
	"testing"
	"unsafe"

	"gambit/api"
	"gambit/book"
	"gambit/card"
)

// orders has each order of the numbers from 0 on, so many of them.
func orders(count int) [][]int {
	if count == 0 {
		return [][]int{{}}
	}
	var list [][]int
	for _, order := range orders(count - 1) {
		for place := range count {
			list = append(list, slices.Insert(slices.Clone(order), place, count-1))
		}
	}
	return list
}

// rich is an open book with some of all.
func rich(t *testing.T) *book.Book {
	t.Helper()
	b := filled(t, axe(), rock(), zap())
	wantTrait(t, b, api.Fast, "fast", api.OK)
	wantTrait(t, b, api.Guard, "guard", api.OK)
	wantMark(t, b, up(), api.OK)
	wantMark(t, b, down(), api.OK)
	return b
}

func wantSame(t *testing.T, of string, a, b *book.Book, want bool) {
	t.Helper()
	if one, other := book.Same(a, b), book.Same(b, a); one != want || other != want {
		t.Errorf("Same of %s = %v, the other way round %v, want %v", of, one, other, want)
	}
}

// P7.6

func TestSameOfABookAndItself(t *testing.T) {
	for _, b := range []*book.Book{book.New(), rich(t), sealed(t), sealed(t, axe(), rock()), filled(t, sixtyFour()...)} {
		wantSame(t, "a book and itself", b, b, true)
	}
}

func TestSameOfBooksOfTheSame(t *testing.T) {
	wantSame(t, "two empty books", book.New(), book.New(), true)
	wantSame(t, "two sealed empty books", sealed(t), sealed(t), true)
	wantSame(t, "two open books", rich(t), rich(t), true)
	a, b := rich(t), rich(t)
	wantSeal(t, a, api.OK)
	wantSame(t, "a sealed book and an open one", a, b, false)
	wantSeal(t, b, api.OK)
	wantSame(t, "two sealed books", a, b, true)
	wantSame(t, "an empty sealed book and an empty open one", sealed(t), book.New(), false)
}

func TestSameOfWhatIsNoBook(t *testing.T) {
	no := []*book.Book{nil, {}, new(book.Book)}
	for _, a := range no {
		for _, b := range no {
			wantSame(t, "what is no book, twice", a, b, false)
		}
		for _, b := range []*book.Book{book.New(), rich(t), sealed(t)} {
			wantSame(t, "what is no book and a book", a, b, false)
		}
	}
}

// likeRock has the card rock with each of its fields changed, in one alone.
func likeRock() []api.Card {
	return []api.Card{
		but(rock(), func(c *api.Card) { c.Name = "rocks" }),
		but(rock(), func(c *api.Card) { c.Suit = api.Fire }),
		but(rock(), func(c *api.Card) { c.Kind, c.Health = api.Relic, 0 }),
		but(rock(), func(c *api.Card) { c.Kind, c.Health = api.Spell, 0 }),
		but(rock(), func(c *api.Card) { c.Cost = 2 }),
		but(rock(), func(c *api.Card) { c.Power = 1 }),
		but(rock(), func(c *api.Card) { c.Health = 4 }),
		but(rock(), func(c *api.Card) { c.Traits = 1 }),
		but(rock(), func(c *api.Card) { c.Token = true }),
		but(rock(), func(c *api.Card) { c.Parts = axe().Parts }),
	}
}

func TestSameOfBooksThatDifferInACard(t *testing.T) {
	var books []*book.Book
	for _, c := range append(likeRock(), rock()) {
		books = append(books, filled(t, zap(), c, idol("wall", api.Earth), idol("idol", api.Gold)))
	}
	books = append(books, filled(t, zap(), idol("wall", api.Earth), idol("idol", api.Gold)), book.New())
	for i, a := range books {
		for j, b := range books {
			wantSame(t, "books with one unlike card", a, b, i == j)
		}
	}
}

// A book of the first few cards of another one is not the same, whichever of the two is asked.
func TestSameOfBooksOfUnlikeSizes(t *testing.T) {
	for few := range 64 {
		for _, cards := range [][]api.Card{sixtyFour()[:few], inOrder(sixtyFour())[:few]} {
			a, b := filled(t, cards...), filled(t, sixtyFour()...)
			wantSame(t, "a book and a greater one", a, b, false)
		}
	}
}

func TestSameOfBooksThatDifferInAPart(t *testing.T) {
	parts := []api.Part{{When: api.Played, Verb: api.Put, Whom: api.Dyed, Count: 1, Suit: api.Air, Mark: api.Up}, {When: api.Begun, Verb: api.Harm, Whom: api.With, Count: 1, Trait: api.Fast}, call("rock")}
	change := func(place int, do func(*api.Part)) []api.Part {
		list := slices.Clone(parts)
		do(&list[place])
		return list
	}
	lists := [][]api.Part{
		nil, parts[:1], parts[:2], parts, append(slices.Clone(parts), call("rock")), {parts[1], parts[0], parts[2]},
		change(0, func(p *api.Part) { p.When = api.Broken }),
		change(1, func(p *api.Part) { p.Verb = api.Mend }),
		change(2, func(p *api.Part) { p.Whom = api.Foe }),
		change(0, func(p *api.Part) { p.Count = 2 }),
		change(0, func(p *api.Part) { p.Suit = api.Gold }),
		change(1, func(p *api.Part) { p.Trait = api.Guard }),
		change(0, func(p *api.Part) { p.Mark = api.Down }),
		change(2, func(p *api.Part) { p.Name = "idol" }),
	}
	for i, one := range lists {
		for j, other := range lists {
			a, b := filled(t, rock(), idol("idol", api.Gold, one...)), filled(t, idol("idol", api.Gold, other...), rock())
			wantSame(t, "books with one unlike part", a, b, i == j)
			wantSeal(t, a, api.OK)
			wantSeal(t, b, api.OK)
			wantSame(t, "sealed books with one unlike part", a, b, i == j)
		}
	}
}

func TestSameOfBooksThatDifferInATrait(t *testing.T) {
	var books []*book.Book
	for n := api.Fast; n <= api.Swift; n++ {
		for _, name := range []string{"one", "two"} {
			b := filled(t, rock())
			wantTrait(t, b, n, name, api.OK)
			books = append(books, b)
		}
	}
	crossed := filled(t, rock())
	wantTrait(t, crossed, api.Fast, "two", api.OK)
	wantTrait(t, crossed, api.Swift, "one", api.OK)
	straight := filled(t, rock())
	wantTrait(t, straight, api.Fast, "one", api.OK)
	wantTrait(t, straight, api.Swift, "two", api.OK)
	books = append(books, crossed, straight, filled(t, rock()))
	for i, a := range books {
		for j, b := range books {
			wantSame(t, "books with unlike traits", a, b, i == j)
		}
	}
}

func TestSameOfBooksThatDifferInAMark(t *testing.T) {
	books := []*book.Book{filled(t, rock())}
	for n := api.Up; n <= api.Charge; n++ {
		for _, m := range []api.MarkInfo{{Mark: n, Name: "one"}, {Mark: n, Name: "two"}, {Mark: n, Name: "one", Power: 1}, {Mark: n, Name: "one", Health: 1}, {Mark: n, Name: "one", Health: -1}} {
			b := filled(t, rock())
			wantMark(t, b, m, api.OK)
			books = append(books, b)
		}
	}
	for i, a := range books {
		for j, b := range books {
			wantSame(t, "books with unlike marks", a, b, i == j)
		}
	}
	a, b := filled(t, rock()), filled(t, rock())
	wantTrait(t, a, api.Fast, "one", api.OK)
	wantMark(t, b, api.MarkInfo{Mark: api.Up, Name: "one"}, api.OK)
	wantSame(t, "a book with a trait and one with a mark", a, b, false)
}

// What was refused leaves no trace by which two books could be told apart.
func TestSameBehindWhatWasRefused(t *testing.T) {
	a, b := rich(t), rich(t)
	wantCard(t, b, rock(), api.ErrThere)
	wantCard(t, b, api.Card{}, api.ErrName)
	wantTrait(t, b, api.Fast, "slow", api.ErrThere)
	wantTrait(t, b, 0, "slow", api.ErrArg)
	wantMark(t, b, api.MarkInfo{Name: "slow"}, api.ErrArg)
	wantMark(t, b, api.MarkInfo{Mark: api.Shield, Name: "up"}, api.ErrThere)
	wantCard(t, a, idol("idol", api.Air, call("late")), api.OK)
	wantCard(t, b, idol("idol", api.Air, call("late")), api.OK)
	wantSeal(t, b, api.ErrMissing)
	wantSame(t, "books behind what was refused", a, b, true)
}

// P7.7

// adding is what may be added to a book.
type adding func(*book.Book) api.Errno

func ofCard(c api.Card) adding { return func(b *book.Book) api.Errno { return b.Card(c) } }

func ofTrait(n api.Trait, name string) adding {
	return func(b *book.Book) api.Errno { return b.Trait(n, name) }
}

func ofMark(m api.MarkInfo) adding { return func(b *book.Book) api.Errno { return b.Mark(m) } }

func added(t *testing.T, order []int, all []adding) *book.Book {
	t.Helper()
	b := book.New()
	for _, place := range order {
		if err := all[place](b); err != api.OK {
			t.Fatalf("the adding %d of %v was refused: %d", place, order, err)
		}
	}
	return b
}

func TestWhateverTheOrder(t *testing.T) {
	all := []adding{
		ofCard(axe()), ofTrait(api.Fast, "fast"), ofCard(rock()), ofMark(up()), ofCard(idol("a", api.Earth, call("axe"))), ofTrait(api.Swift, "a"), ofCard(spell("z", api.Air, "rock")),
	}
	every := orders(len(all))
	first := added(t, every[0], all)
	open := tell(first)
	wantSealed := added(t, every[0], all)
	wantSeal(t, wantSealed, api.OK)
	closed := tell(wantSealed)
	for _, order := range every {
		b := added(t, order, all)
		if got := tell(b); !book.Same(b, first) || !reflect.DeepEqual(got, open) {
			t.Fatalf("the open book of the order %v tells %+v, want %+v", order, got, open)
		}
		if err := b.Seal(); err != api.OK {
			t.Fatalf("Seal() = %d", err)
		}
		if got := tell(b); !book.Same(b, wantSealed) || book.Same(b, first) || !reflect.DeepEqual(got, closed) {
			t.Fatalf("the sealed book of the order %v tells %+v, want %+v", order, got, closed)
		}
	}
	wantCards(t, wantSealed, "axe", "z", "a", "rock")
}

// Sixty-four cards, each step apart from the one ahead, from each beginning, forth and back.
func TestWhateverTheOrderOfAFullBook(t *testing.T) {
	cards := sixtyFour()
	want := sealed(t, cards...)
	for step := 1; step < 64; step += 2 {
		for _, begin := range []int{0, 1, 31, 63} {
			b := book.New()
			for i := range 64 {
				if err := b.Card(cards[(begin+i*step)%64]); err != api.OK {
					t.Fatalf("Card = %d", err)
				}
			}
			wantSeal(t, b, api.OK)
			wantSame(t, "full books", b, want, true)
			if !reflect.DeepEqual(tell(b), tell(want)) {
				t.Errorf("the full book by steps of %d from %d on tells %+v", step, begin, tell(b))
			}
		}
	}
}

func TestAtOfFindAndFindOfAt(t *testing.T) {
	cards := append(sixtyFour()[:60], axe(), rock(), zap(), idol("idol", api.Gold, call("axe"), call("rock")))
	b := sealed(t, cards...)
	for _, c := range cards {
		n, err := b.Find(c.Name)
		if err != api.OK {
			t.Errorf("Find(%s) = %d", c.Name, err)
		}
		wantAt(t, b, n, c, api.OK)
	}
	ahead := api.Card{}
	for n := 1; n <= b.Len(); n++ {
		c, err := b.At(n)
		if err != api.OK || c.Suit < ahead.Suit || c.Suit == ahead.Suit && c.Name <= ahead.Name {
			t.Errorf("At(%d) = %+v, %d, behind %+v", n, c, err, ahead)
		}
		wantFind(t, b, c.Name, n, api.OK)
		ahead = c
	}
}

// spoil writes over all that a card shares with others, its spare room too.
func spoil(c api.Card) {
	parts := c.Parts[:cap(c.Parts)]
	for i := range parts {
		parts[i] = api.Part{When: 99, Name: "spoilt"}
	}
}

func TestACardThatWasToldMayBeWrittenOver(t *testing.T) {
	four := idol("four", api.Gold, call("rock"), call("rock"), call("axe"), call("four"))
	open := filled(t, axe(), rock(), four)
	closed := sealed(t, axe(), rock(), four)
	for _, b := range []*book.Book{open, closed} {
		all := b.Cards()
		for c := range all {
			spoil(c)
		}
		for n := 1; n <= 3; n++ {
			c, _ := b.At(n)
			spoil(c)
		}
		for _, c := range tell(b).Cards {
			spoil(c)
		}
		want := []api.Card{axe(), rock(), four}
		if got := slices.Collect(all); !sameCards(got, want) {
			t.Errorf("Cards() gone over again, behind writing over what it told = %+v", got)
		}
		if got := slices.Collect(b.Cards()); !sameCards(got, want) {
			t.Errorf("Cards() behind writing over what was told = %+v", got)
		}
		for n := 1; n <= 3 && b == closed; n++ {
			wantAt(t, b, n, want[n-1], api.OK)
		}
	}
	wantSeal(t, open, api.OK)
	wantSame(t, "books of which cards were told", open, closed, true)
}

func TestACardThatWasHandedInMayBeWrittenOver(t *testing.T) {
	room := append(make([]api.Part, 0, 9), call("rock"), call("axe"))
	handed := idol("axe", api.Air, room...)
	handed.Parts = room
	b := filled(t, handed, rock())
	if !slices.Equal(handed.Parts, []api.Part{call("rock"), call("axe")}) || !slices.Equal(room[2:9], make([]api.Part, 7)) {
		t.Errorf("Card has changed what was handed in: %+v", room[:9])
	}
	spoil(handed)
	want := idol("axe", api.Air, call("rock"), call("axe"))
	if got := slices.Collect(b.Cards()); !sameCards(got, []api.Card{want, rock()}) {
		t.Errorf("Cards() behind writing over what was handed in = %+v", got)
	}
	wantSeal(t, b, api.OK)
	wantAt(t, b, 1, want, api.OK)
	c, _ := b.At(1)
	for _, p := range c.Parts[len(c.Parts):cap(c.Parts)] {
		if p.Name == "spoilt" {
			t.Errorf("the spare room of what was handed in is handed out: %+v", p)
		}
	}
}

// passing is a text in memory that is written over behind the call, as no text should be: so it shows who keeps a piece of it.
func passing(text string) (string, []byte) {
	memory := []byte(text)
	return unsafe.String(unsafe.SliceData(memory), len(memory)), memory
}

func TestABookKeepsNoTextThatWasHandedIn(t *testing.T) {
	b := book.New()
	var memories [][]byte
	text := func(name string) string {
		s, memory := passing(name)
		memories = append(memories, memory)
		return s
	}
	wantCard(t, b, idol(text("idol"), api.Air, call(text("rock")), call(text("idol"))), api.OK)
	wantCard(t, b, but(rock(), func(c *api.Card) { c.Name = text("rock") }), api.OK)
	wantTrait(t, b, api.Fast, text("fast"), api.OK)
	wantMark(t, b, api.MarkInfo{Mark: api.Up, Name: text("up"), Power: 1, Health: 1}, api.OK)
	for _, memory := range memories {
		copy(memory, strings.Repeat("x", len(memory)))
	}
	want := filled(t, idol("idol", api.Air, call("rock"), call("idol")), rock())
	wantTrait(t, want, api.Fast, "fast", api.OK)
	wantMark(t, want, up(), api.OK)
	wantSame(t, "a book whose texts were written over where they came from", b, want, true)
}

// No two lists that a book tells lie in one memory.
func TestNoTwoListsShareMemory(t *testing.T) {
	b := sealed(t, axe(), rock())
	var lists [][]api.Part
	for range 2 {
		c, _ := b.At(1)
		lists = append(lists, c.Parts)
		for c := range b.Cards() {
			lists = append(lists, c.Parts)
		}
	}
	for i, list := range lists {
		for j, other := range lists {
			if i != j && cap(list) > 0 && cap(other) > 0 && &list[:1][0] == &other[:1][0] {
				t.Errorf("the lists %d and %d share memory", i, j)
			}
		}
	}
}

// model is a book as the chapter's words say it, with nothing in any order.
type model struct {
	cards  map[string]api.Card
	traits map[api.Trait]string
	marks  map[api.Mark]api.MarkInfo
	sealed bool
}

func (m *model) card(c api.Card) api.Errno {
	_, there := m.cards[c.Name]
	switch {
	case m.sealed:
		return api.ErrSealed
	case card.Check(c) != api.OK:
		return card.Check(c)
	case there:
		return api.ErrThere
	case len(m.cards) == 64:
		return api.ErrFull
	}
	m.cards[c.Name] = c
	return api.OK
}

func (m *model) trait(n api.Trait, name string) api.Errno {
	taken := m.traits[n] != ""
	for _, other := range m.traits {
		taken = taken || other == name
	}
	switch {
	case m.sealed:
		return api.ErrSealed
	case n < 1 || n > 8:
		return api.ErrArg
	case strings.Trim(name, "abcdefghijklmnopqrstuvwxyz") != "" || name == "":
		return api.ErrName
	case taken:
		return api.ErrThere
	}
	m.traits[n] = name
	return api.OK
}

func (m *model) mark(info api.MarkInfo) api.Errno {
	taken := m.marks[info.Mark].Name != ""
	for _, other := range m.marks {
		taken = taken || other.Name == info.Name
	}
	switch {
	case m.sealed:
		return api.ErrSealed
	case info.Mark < 1 || info.Mark > 4 || max(info.Power, -info.Power, info.Health, -info.Health) > 9:
		return api.ErrArg
	case strings.Trim(info.Name, "abcdefghijklmnopqrstuvwxyz") != "" || info.Name == "":
		return api.ErrName
	case taken:
		return api.ErrThere
	}
	m.marks[info.Mark] = info
	return api.OK
}

func (m *model) list() []api.Card {
	var list []api.Card
	for _, c := range m.cards {
		list = append(list, c)
	}
	return inOrder(list)
}

func (m *model) seal() api.Errno {
	if m.sealed {
		return api.ErrSealed
	}
	for _, c := range m.list() {
		for _, p := range c.Parts {
			called, there := m.cards[p.Name]
			if p.Verb == api.Call && !there {
				return api.ErrMissing
			}
			if p.Verb == api.Call && called.Kind == api.Spell {
				return api.ErrCard
			}
		}
	}
	m.sealed = true
	return api.OK
}

// tell is what a book of the model's should tell.
func (m *model) tell() what {
	w := what{Sealed: m.sealed, Len: len(m.cards), Cards: m.list(), At: map[int]api.Card{}, Traits: m.traits, Marks: m.marks}
	for n := -1; n <= 66; n++ {
		w.At[n] = api.Card{}
		err := api.ErrMissing
		if m.sealed && n >= 1 && n <= len(w.Cards) {
			w.At[n], err = w.Cards[n-1], api.OK
		}
		w.Errs = append(w.Errs, err)
	}
	for i := range w.Cards {
		number, err := 0, api.ErrMissing
		if m.sealed {
			number, err = i+1, api.OK
		}
		w.Held, w.Finds, w.Errs = append(w.Held, true), append(w.Finds, number), append(w.Errs, err)
	}
	return w
}

// drawn gives numbers one behind the other, the same ones for the same beginning.
func drawn(begin uint64) func(below int) int {
	return func(below int) int {
		begin = begin*6364136223846793005 + 1442695040888963407
		return int(begin>>33) % below
	}
}

func drawnCard(draw func(int) int, names []string) api.Card {
	c := api.Card{Name: names[draw(len(names))], Suit: api.Suit(1 + draw(6)), Kind: api.Kind(1 + draw(3)), Cost: draw(12)}
	if c.Kind == api.Unit {
		c.Power, c.Health = draw(3), draw(9)
	}
	for range draw(3) * draw(2) {
		p := call(names[draw(len(names))])
		p.When = api.Played
		c.Parts = append(c.Parts, p)
	}
	return c
}

// Long walks of calls of all kinds, drawn out of few names so that much is refused, each answer held against the model's.
func TestWalksAgainstAModel(t *testing.T) {
	names := []string{"", "Bad", "a", "b", "c", "d", "e", "f", "g", "ab", "ba", "x", "y", "z"}
	closed, open := 0, 0
	for begin := range 150 {
		draw := drawn(uint64(begin))
		b, m := book.New(), &model{cards: map[string]api.Card{}, traits: map[api.Trait]string{}, marks: map[api.Mark]api.MarkInfo{}}
		for step := range 60 {
			var got, want api.Errno
			switch draw(20) {
			case 0:
				got, want = b.Seal(), m.seal()
			case 1, 2, 3, 4:
				n, name := api.Trait(draw(11)), names[draw(len(names))]
				got, want = b.Trait(n, name), m.trait(n, name)
			case 5, 6, 7, 8:
				info := api.MarkInfo{Mark: api.Mark(draw(7)), Name: names[draw(len(names))], Power: draw(21) - 10, Health: draw(21) - 10}
				got, want = b.Mark(info), m.mark(info)
			default:
				c := drawnCard(draw, names)
				got, want = b.Card(c), m.card(c)
			}
			if got != want {
				t.Fatalf("the walk %d, step %d: got %d, want %d", begin, step, got, want)
			}
			if told := tell(b); !reflect.DeepEqual(told, m.tell()) {
				t.Fatalf("the walk %d, step %d: the book tells %+v, want %+v", begin, step, told, m.tell())
			}
		}
		if b.Sealed() {
			closed++
		} else {
			open++
		}
	}
	if closed < 10 || open < 10 {
		t.Errorf("of the walks %d ended sealed, %d open: a fault of the test", closed, open)
	}
}

// P1, P2: a sealed book may be asked by many at once, and each book hangs on itself alone.
func TestManyAtOnce(t *testing.T) {
	shared := sealed(t, axe(), rock(), zap())
	all := shared.Cards()
	want := tell(shared)
	told := make([]what, 16)
	same := make([]bool, len(told))
	lists := make([][]api.Card, len(told))
	var group sync.WaitGroup
	for i := range told {
		group.Go(func() {
			told[i], lists[i] = tell(shared), slices.Collect(all)
			own := book.New()
			for _, c := range []api.Card{rock(), zap(), axe()} {
				own.Card(c)
			}
			own.Seal()
			same[i] = book.Same(own, shared) && shared.Card(rock()) == api.ErrSealed && shared.Seal() == api.ErrSealed
		})
	}
	group.Wait()
	for i := range told {
		if !reflect.DeepEqual(told[i], want) || !same[i] || !sameCards(lists[i], want.Cards) {
			t.Errorf("goroutine %d was told %+v, %v", i, told[i], same[i])
		}
	}
}
