package water

import (
	"gambit/api"
	"gambit/trait"
)

// makers makes the table of the functions that make the cards, in the cards' order.
func makers() []func() api.Card {
	return []func() api.Card{dew, tide, drop, siren, spring, mirror}
}

func dew() api.Card {
	return api.Card{
		Name: "dew", Suit: api.Water, Kind: api.Unit, Cost: 1,
		Power: 1, Health: value(step), Traits: trait.With(0, api.Lone),
		Parts: []api.Part{
			{When: api.Broken, Verb: api.Draw, Whom: api.You, Count: 1},
		},
	}
}

func tide() api.Card {
	return api.Card{
		Name: "tide", Suit: api.Water, Kind: api.Spell, Cost: 4,
		Parts: []api.Part{
			{When: api.Played, Verb: api.Back, Whom: api.Theirs},
			{When: api.Played, Verb: api.Drop, Whom: api.Foe, Count: 1},
		},
	}
}

func drop() api.Card {
	return api.Card{
		Name: "drop", Suit: api.Water, Kind: api.Unit, Token: true,
		Power: 1, Health: 1, Traits: trait.With(0, api.Drain),
	}
}

func siren() api.Card {
	return api.Card{
		Name: "siren", Suit: api.Water, Kind: api.Unit, Cost: value(low) + value(step),
		Power: 1, Health: value(low),
		Parts: []api.Part{
			{When: api.Always, Verb: api.Seize, Whom: api.Dyed, Suit: api.Fire},
			{When: api.Always, Verb: api.Strip, Whom: api.Theirs, Trait: api.Guard},
			{When: api.Begun, Verb: api.Harm, Whom: api.Foe, Count: 1},
		},
	}
}

func spring() api.Card {
	return api.Card{
		Name: "spring", Suit: api.Water, Kind: api.Relic, Cost: value(step),
		Parts: []api.Part{
			{When: api.Rather, Verb: api.Instead, Whom: api.You, Count: 1},
			{When: api.Begun, Verb: api.Mend, Whom: api.Yours, Count: 1},
		},
	}
}

// mirror calls a card of the suit Air: a book without wisp is not sealed with it.
func mirror() api.Card {
	return api.Card{
		Name: "mirror", Suit: api.Water, Kind: api.Unit, Cost: 4,
		Power: value(step), Health: 4,
		Parts: []api.Part{
			{When: api.Rather, Verb: api.Turned, Whom: api.Self},
			{When: api.Played, Verb: api.Call, Whom: api.Foe, Count: 1, Name: "wisp"},
		},
	}
}
