package whom_test

import (
	"testing"

	"gambit/api"
	"gambit/whom"
)

// candidates are all things that differ in what may count: whether it is a unit, the part's own, who holds it, its suit, its traits.
func candidates() []whom.Candidate {
	var list []whom.Candidate
	for bits := range 16 {
		list = append(list, candidate(bits&1 > 0, bits&2 > 0, bits>>2&1, bits>>3&1))
	}
	return list
}

func candidate(unit, own bool, holder, other int) whom.Candidate {
	f := api.Feature{Holder: holder, Suit: api.Air, Traits: 0b10000001, Power: 7, Health: -7}
	if other == 1 {
		f.Suit, f.Traits = api.Gold, 0b01111110
	}
	return whom.Candidate{Feature: f, Unit: unit, Own: own}
}

func TestIsOfEachWhom(t *testing.T) {
	for holder := range 2 {
		for _, x := range candidates() {
			for w := range 256 {
				want := map[api.Whom]bool{
					api.Self:   x.Own,
					api.Yours:  x.Unit && x.Holder == holder,
					api.Rest:   x.Unit && x.Holder == holder && !x.Own,
					api.Theirs: x.Unit && x.Holder == 1-holder,
					api.All:    x.Unit,
					api.Dyed:   x.Unit && x.Suit == api.Air,
					api.With:   x.Unit && x.Traits == 0b10000001,
				}[api.Whom(w)]
				part := api.Part{When: api.Always, Verb: api.Raise, Whom: api.Whom(w), Count: 1, Suit: api.Air, Trait: api.Swift}
				if got := whom.Is(part, holder, x); got != want {
					t.Errorf("Is of the whom %d, held by %d, of %+v = %v", w, holder, x, got)
				}
			}
		}
	}
}

// Each suit and each trait, by itself.
func TestIsOfEachSuitAndTrait(t *testing.T) {
	for n := range 10 {
		for suit := range 10 {
			x := whom.Candidate{Feature: api.Feature{Suit: api.Suit(suit)}, Unit: true}
			if got := whom.Is(api.Part{Whom: api.Dyed, Suit: api.Suit(n)}, 0, x); got != (suit == n) {
				t.Errorf("Is of the suit %d of one of the suit %d = %v", n, suit, got)
			}
		}
		for bits := range 256 {
			x := whom.Candidate{Feature: api.Feature{Traits: api.Traits(bits)}, Unit: true}
			want := n >= 1 && n <= 8 && bits>>max(n-1, 0)&1 == 1
			if got := whom.Is(api.Part{Whom: api.With, Trait: api.Trait(n)}, 0, x); got != want {
				t.Errorf("Is of the trait %d of one with %08b = %v", n, bits, got)
			}
		}
	}
}

// When a part counts, what it does and how much counts for nothing here: parts of a moment and swaps are about others likewise.
func TestIsByTheWhomAlone(t *testing.T) {
	for _, x := range candidates() {
		for w := api.You; w <= api.With; w++ {
			bare := api.Part{Whom: w, Suit: api.Gold, Trait: api.Guard}
			for _, part := range []api.Part{
				{When: api.Played, Verb: api.Harm, Count: 3},
				{When: api.Rather, Verb: api.Instead, Count: 99},
				{When: 99, Verb: 99, Count: -1, Mark: 9, Name: "x"},
			} {
				part.Whom, part.Suit, part.Trait = bare.Whom, bare.Suit, bare.Trait
				if whom.Is(part, 1, x) != whom.Is(bare, 1, x) {
					t.Errorf("Is of %+v of %+v is otherwise", part, x)
				}
			}
		}
	}
}
