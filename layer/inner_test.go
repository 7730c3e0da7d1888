package layer

import (
	"testing"

	"gambit/api"
)

// P19.2: of a Whom that no standing effect has About tells none. No book has a card with such a part, so that it is asked inside.
func TestAboutKnowsNoOtherWhom(t *testing.T) {
	now := table{
		rows: []row{{1, 1, api.Card{Kind: api.Unit}}, {2, 2, api.Card{Kind: api.Unit}}, {3, 3, api.Card{Kind: api.Relic}}},
		fs:   []api.Feature{{Suit: api.Air, Traits: 255}, {Holder: 1, Suit: api.Air, Traits: 255}, {}},
	}
	known := map[api.Whom]int{api.Self: 1, api.Yours: 1, api.Theirs: 1, api.All: 2, api.Rest: 0, api.Dyed: 2, api.With: 2}
	for w := range 256 {
		what := api.Part{When: api.Always, Verb: api.Raise, Whom: api.Whom(w), Count: 1, Suit: api.Air, Trait: api.Fast}
		s := standing{api.Standing{Thing: 1, What: what}, 0}
		if got := now.numbers(now.about(s)); len(got) != known[api.Whom(w)] {
			t.Errorf("the whom %d: %v", w, got)
		}
	}
}
