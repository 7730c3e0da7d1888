package air

import (
	"gambit/api"
	"gambit/trait"
)

// makers makes the table of the functions that make the cards, in the cards' order.
func makers() []func() api.Card {
	return []func() api.Card{breeze, wisp, kite, swiftWing, flock, calm}
}

func breeze() api.Card {
	return api.Card{
		Name: "breeze", Suit: api.Air, Kind: api.Spell, Cost: value(step),
		Parts: []api.Part{
			{When: api.Played, Verb: api.Back, Whom: api.It},
			{When: api.Played, Verb: api.Draw, Whom: api.You, Count: 1},
		},
	}
}

func wisp() api.Card {
	return api.Card{
		Name: "wisp", Suit: api.Air, Kind: api.Unit, Token: true,
		Power: 1, Health: 1, Traits: trait.With(0, api.Fast),
	}
}

func kite() api.Card {
	return api.Card{
		Name: "kite", Suit: api.Air, Kind: api.Unit, Cost: value(step),
		Power: value(step), Health: 1, Traits: trait.With(0, api.Fast),
		Parts: []api.Part{
			{When: api.Struck, Verb: api.Draw, Whom: api.You, Count: 1},
		},
	}
}

func swiftWing() api.Card {
	return api.Card{
		Name: "swift-wing", Suit: api.Air, Kind: api.Unit, Cost: value(low),
		Power: value(step), Health: value(low), Traits: trait.With(0, api.Swift),
		Parts: []api.Part{
			{When: api.Always, Verb: api.Grant, Whom: api.Rest, Trait: api.Fast},
		},
	}
}

func flock() api.Card {
	return api.Card{
		Name: "flock", Suit: api.Air, Kind: api.Unit, Cost: 4,
		Power: 1, Health: 4,
		Parts: []api.Part{
			{When: api.Played, Verb: api.Call, Whom: api.You, Count: 2, Name: "wisp"},
			{When: api.Always, Verb: api.Raise, Whom: api.Dyed, Count: 1, Suit: api.Air},
		},
	}
}

func calm() api.Card {
	return api.Card{
		Name: "calm", Suit: api.Air, Kind: api.Relic, Cost: value(low),
		Parts: []api.Part{
			{When: api.Rather, Verb: api.Less, Whom: api.You, Count: 1},
			{When: api.Begun, Verb: api.Mend, Whom: api.You, Count: 1},
		},
	}
}
