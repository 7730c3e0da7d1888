package zone_test

import (
	"slices"
	"sync"
	"testing"

	"gambit/api"
	"gambit/zone"
)

// Rule 4: what was handed in stays, and may be written over; each answer is new memory.

const spare = 8

// roomy is a list with spare room behind it, in which something else stands.
func roomy[T any](l []T, behind T) []T {
	room := append(slices.Clone(l), slices.Repeat([]T{behind}, spare)...)
	return room[:len(l)]
}

// whole is a list with its spare room.
func whole[T any](l []T) []T { return l[:cap(l)] }

// writeOver writes something into a list, its spare room too.
func writeOver[T any](l []T, with T) {
	for i := range whole(l) {
		whole(l)[i] = with
	}
}

func TestNewKeepsNothing(t *testing.T) {
	for _, cards := range [][]int{nil, {4}, {4, 5, 6}, {4, 0}, upTo(2000)} {
		one, two := roomy(cards, -1), roomy([]int{7}, -1)
		before := [2][]int{slices.Clone(whole(one)), slices.Clone(whole(two))}
		z, e := zone.New(one, two)
		if !slices.Equal(whole(one), before[0]) || !slices.Equal(whole(two), before[1]) {
			t.Errorf("the lists are %v, %v, want %v", whole(one), whole(two), before)
		}
		if e == api.OK {
			m := told(z)
			writeOver(one, 9)
			writeOver(two, 9)
			wantTold(t, z, m)
		}
	}
}

func TestFromKeepsNothing(t *testing.T) {
	for _, wrong := range []int{0, 1} {
		m := deep()
		m.stamp -= wrong * m.stamp
		m.things = roomy(m.things, api.Thing{Card: 1, Place: api.Grave})
		for _, l := range lists(&m) {
			*l = roomy(*l, 99)
		}
		before := m
		before.things = slices.Clone(whole(m.things))
		for i, l := range lists(&before) {
			*l = slices.Clone(whole(*lists(&m)[i]))
		}
		z, e := zone.From(m.things, m.decks, m.hands, m.stamp)
		after := m
		after.things = whole(m.things)
		for _, l := range lists(&after) {
			*l = whole(*l)
		}
		if !after.equal(before) {
			t.Errorf("what was handed in is %+v, want %+v", after, before)
		}
		if wrong == 1 {
			if e != api.ErrArg {
				t.Errorf("From = %v", e)
			}
			continue
		}
		kept := told(z)
		writeOver(m.things, api.Thing{Card: 5, Place: api.Stacked})
		for _, l := range lists(&m) {
			writeOver(*l, 77)
		}
		wantTold(t, z, kept)
		now := kept.clone()
		for n := 1; n <= 36; n++ { // nor is it written by later calls
			wantMove(t, z, &now, n, api.Deck)
		}
		for _, x := range whole(m.things) {
			if x != (api.Thing{Card: 5, Place: api.Stacked}) {
				t.Errorf("a thing that was handed in is %+v", x)
			}
		}
		for _, l := range lists(&m) {
			if times(whole(*l), 77) != cap(*l) {
				t.Errorf("a list that was handed in is %v", whole(*l))
			}
		}
	}
}

func TestArrangeKeepsNothing(t *testing.T) {
	m := deep()
	z := m.made(t)
	for _, l := range [][]int{m.decks[0], m.decks[0][1:], {1}} {
		list := roomy(l, 99)
		slices.Reverse(list)
		before := slices.Clone(whole(list))
		m.arrange(0, list)
		z.Arrange(0, list)
		if !slices.Equal(whole(list), before) {
			t.Errorf("the list is %v, want %v", whole(list), before)
		}
		writeOver(list, 77)
		wantTold(t, z, m)
		wantMove(t, z, &m, 1, api.Deck)
		wantMove(t, z, &m, 2, api.Deck)
		if times(whole(list), 77) != cap(list) {
			t.Errorf("the list is %v", whole(list))
		}
	}
}

// answers are all lists of numbers that zones tell.
func answers(z *zone.Zones) [][]int {
	all := [][]int{z.Table()}
	for p := -1; p <= 2; p++ {
		all = append(all, z.Deck(p), z.Hand(p))
		for place := range 7 {
			all = append(all, z.In(p, api.Place(place)))
		}
	}
	return all
}

func TestAnswersAreNewMemory(t *testing.T) {
	made, _ := zone.New([]int{1, 2, 3, 4, 5}, []int{6})
	made.Move(2, api.Hand)
	made.Move(6, api.Table)
	for _, z := range []*zone.Zones{sample().made(t), deep().made(t), made} {
		m := told(z)
		things := z.Things()
		others := answers(z)
		want := answers(z)
		for _, l := range answers(z) {
			for _, n := range l[len(l):cap(l)] {
				if n != 0 {
					t.Errorf("%v stands in an answer's spare room", whole(l))
				}
			}
			writeOver(l, -7)
			_ = append(l, -7)
		}
		for i := range want {
			if !slices.Equal(others[i], want[i]) {
				t.Errorf("another answer is %v, want %v", others[i], want[i])
			}
		}
		wantTold(t, z, m)
		writeOver(things, api.Thing{Card: 88})
		_ = append(things, api.Thing{Card: 88})
		wantTold(t, z, m)
		for n := 1; n <= z.Len(); n++ { // an answer stays, whatever is called later
			z.Move(n, api.Deck)
			z.Move(n, api.Grave)
		}
		for i := range want {
			if !slices.Equal(others[i], want[i]) {
				t.Errorf("behind calls an answer is %v, want %v", others[i], want[i])
			}
		}
	}
}

// An answer in which a thing stands is left by a thing's leaving as it was.
func TestAnswersStayWhenAThingLeaves(t *testing.T) {
	for n := 1; n <= 5; n++ {
		z, _ := zone.New(upTo(5), nil)
		deck, things := z.Deck(0), z.Things()
		z.Move(n, api.Table)
		if !slices.Equal(deck, upTo(5)) || things[n-1] != (api.Thing{Card: n, Place: api.Deck}) {
			t.Errorf("the deck told earlier is %v, the thing %+v", deck, things[n-1])
		}
	}
}

// Rule 8: many may ask at the same time.
func TestManyGoroutinesAsk(t *testing.T) {
	m := deep()
	z := m.made(t)
	var all sync.WaitGroup
	for range 8 {
		all.Go(func() {
			for range 20 {
				if !told(z).equal(m) || len(z.Table()) != 4 || z.Len() != 36 {
					t.Error("another answer")
				}
				for _, l := range answers(z) {
					writeOver(l, -7)
				}
				z.Move(0, api.Deck)
				z.Make(0, 0)
				z.Write(1, api.Thing{})
				z.Arrange(0, nil)
				again, _ := zone.From(m.things, m.decks, m.hands, m.stamp)
				again.Move(1, api.Table)
			}
		})
	}
	all.Wait()
	wantTold(t, z, m)
}
