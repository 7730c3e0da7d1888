package whole

import (
	"slices"
	"testing"

	"gambit/api"
	"gambit/book"
)

// P14.3: which error is the first, if a call refuses. None of the six is refused anything, so sources of the test's own are.

// made is a source that has just these.
func made(marks []api.MarkInfo, traits []api.Trait, cards []api.Card) source {
	return source{
		name:   "made",
		list:   func() []api.Card { return cards },
		traits: func() []api.Trait { return traits },
		marks:  func() []api.MarkInfo { return marks },
		number: func() int { return 0 },
	}
}

func up() []api.MarkInfo { return []api.MarkInfo{{Mark: api.Up, Name: "up"}} }

func rock() api.Card {
	return api.Card{Name: "rock", Suit: api.Earth, Kind: api.Unit, Cost: 1, Health: 3}
}

// axe calls rock.
func axe() api.Card {
	return api.Card{Name: "axe", Suit: api.Air, Kind: api.Relic, Cost: 2, Parts: []api.Part{
		{When: api.Begun, Verb: api.Call, Whom: api.You, Count: 1, Name: "rock"},
	}}
}

func TestSealedOfIsRefused(t *testing.T) {
	fast := []api.Trait{api.Fast}
	rocks := []api.Card{rock()}
	rows := []struct {
		of      string
		sources []source
		want    api.Errno
	}{
		{"none", nil, api.OK},
		{"one of each", []source{made(up(), fast, rocks)}, api.OK},
		{"who is called behind who calls", []source{made(nil, nil, []api.Card{axe()}), made(nil, nil, rocks)}, api.OK},
		{"a mark that is none", []source{made([]api.MarkInfo{{Mark: 5, Name: "up"}}, nil, nil)}, api.ErrArg},
		{"a mark without a name", []source{made([]api.MarkInfo{{Mark: api.Up}}, nil, nil)}, api.ErrName},
		{"a mark twice", []source{made(up(), nil, nil), made(up(), nil, nil)}, api.ErrThere},
		{"a trait that is none", []source{made(nil, []api.Trait{9}, nil)}, api.ErrArg},
		{"a trait twice", []source{made(nil, fast, nil), made(nil, fast, nil)}, api.ErrThere},
		{"a card that may not be", []source{made(nil, nil, []api.Card{{Name: "rock"}})}, api.ErrCard},
		{"a card twice", []source{made(nil, nil, []api.Card{rock(), rock()})}, api.ErrThere},
		{"nobody who is called", []source{made(nil, nil, []api.Card{axe()})}, api.ErrMissing},
		{"a mark ahead of a trait", []source{made([]api.MarkInfo{{Mark: api.Up}}, []api.Trait{9}, nil)}, api.ErrName},
		{"a trait ahead of a card", []source{made(nil, []api.Trait{9}, []api.Card{{}})}, api.ErrArg},
		{"the first source's card ahead of the second's mark", []source{
			made(nil, nil, []api.Card{{Name: "rock"}}),
			made([]api.MarkInfo{{Mark: 5}}, nil, nil),
		}, api.ErrCard},
		{"the last source's card ahead of the seal", []source{
			made(nil, nil, []api.Card{axe()}),
			made(nil, nil, []api.Card{axe()}),
		}, api.ErrThere},
	}
	for _, r := range rows {
		b, e := sealedOf(r.sources)
		if e != r.want || (b != nil) != (e == api.OK) || b.Sealed() != (e == api.OK) {
			t.Errorf("sealedOf %s = %p, sealed %v, %v, want %v", r.of, b, b.Sealed(), e, r.want)
		}
	}
}

func TestFillOfSealedAndOfNoBook(t *testing.T) {
	b := book.New()
	b.Seal()
	for k, s := range six() {
		if e := fill(b, s); e != api.ErrSealed {
			t.Errorf("the fill %d of a sealed book = %v, want ErrSealed", k, e)
		}
		if e := fill(nil, s); e != api.ErrNil {
			t.Errorf("the fill %d of no book = %v, want ErrNil", k, e)
		}
	}
}

// Each of the six, filled by itself, is taken once, and refused with ErrThere a second time.
func TestFillTwice(t *testing.T) {
	for k, s := range six() {
		b := book.New()
		if one, two := fill(b, s), fill(b, s); one != api.OK || two != api.ErrThere {
			t.Errorf("the fill %d twice = %v, %v, want OK, ErrThere", k, one, two)
		}
		if b.Len() != 6 || b.Sealed() {
			t.Errorf("the fill %d left %d cards, sealed %v, want 6, false", k, b.Len(), b.Sealed())
		}
	}
}

// Behind what is refused nothing more is added.
func TestAddAllStops(t *testing.T) {
	var asked []int
	add := func(n int) api.Errno {
		asked = append(asked, n)
		if n < 0 {
			return api.ErrArg
		}
		return api.OK
	}
	if e := addAll([]int{1, 2, -3, 4, -5}, add); e != api.ErrArg || !slices.Equal(asked, []int{1, 2, -3}) {
		t.Errorf("addAll = %v, asked %v, want ErrArg, 1 2 -3", e, asked)
	}
	if e := addAll(nil, add); e != api.OK {
		t.Errorf("addAll of none = %v, want OK", e)
	}
}
