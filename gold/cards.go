package gold

import (
	"gambit/api"
	"gambit/trait"
)

// makers makes the table of the functions that make the cards, in the cards' order.
func makers() []func() api.Card {
	return []func() api.Card{treasure, coin, statue, idol, taxMan, midas}
}

func treasure() api.Card {
	return api.Card{
		Name: "treasure", Suit: api.Gold, Kind: api.Spell, Cost: 1,
		Parts: []api.Part{
			{When: api.Played, Verb: api.Gain, Whom: api.You, Count: 2},
			{When: api.Played, Verb: api.Call, Whom: api.You, Count: 1, Name: "coin"},
		},
	}
}

func coin() api.Card {
	return api.Card{
		Name: "coin", Suit: api.Gold, Kind: api.Unit, Token: true,
		Power: 1, Health: 1, Traits: trait.With(0, api.Fixed),
	}
}

func statue() api.Card {
	return api.Card{
		Name: "statue", Suit: api.Gold, Kind: api.Unit, Cost: value(step),
		Health: value(mid) - 1, Traits: trait.With(trait.With(0, api.Guard), api.Fixed),
		Parts: []api.Part{
			{When: api.Played, Verb: api.Put, Whom: api.Self, Count: 1, Mark: api.Shield},
			{When: api.Rather, Verb: api.Instead, Whom: api.Self, Count: 1},
		},
	}
}

func idol() api.Card {
	return api.Card{
		Name: "idol", Suit: api.Gold, Kind: api.Relic, Cost: value(low),
		Parts: []api.Part{
			{When: api.Always, Verb: api.Dye, Whom: api.Yours, Suit: api.Gold},
			{When: api.Begun, Verb: api.Put, Whom: api.Dyed, Count: 1, Suit: api.Gold, Mark: api.Up},
		},
	}
}

func taxMan() api.Card {
	return api.Card{
		Name: "tax-man", Suit: api.Gold, Kind: api.Unit, Cost: value(low),
		Power: value(step), Health: value(low),
		Parts: []api.Part{
			{When: api.Played, Verb: api.Drop, Whom: api.Foe, Count: 1},
			{When: api.Begun, Verb: api.Gain, Whom: api.You, Count: 1},
		},
	}
}

func midas() api.Card {
	return api.Card{
		Name: "midas", Suit: api.Gold, Kind: api.Unit, Cost: value(mid),
		Power: 4, Health: 4,
		Parts: []api.Part{
			{When: api.Always, Verb: api.Dye, Whom: api.All, Suit: api.Gold},
			{When: api.Struck, Verb: api.Gain, Whom: api.You, Count: 1},
		},
	}
}
