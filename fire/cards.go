package fire

import (
	"gambit/api"
	"gambit/trait"
)

// makers makes the table of the functions that make the cards, in the cards' order.
func makers() []func() api.Card {
	return []func() api.Card{fireBolt, ember, salamander, forge, wildFire, phoenix}
}

func fireBolt() api.Card {
	return api.Card{
		Name: "fire-bolt", Suit: api.Fire, Kind: api.Spell, Cost: value(step),
		Parts: []api.Part{
			{When: api.Played, Verb: api.Harm, Whom: api.It, Count: 3},
		},
	}
}

func ember() api.Card {
	return api.Card{
		Name: "ember", Suit: api.Fire, Kind: api.Unit, Token: true,
		Power: 1, Health: 1, Traits: trait.With(0, api.Fast),
	}
}

func salamander() api.Card {
	return api.Card{
		Name: "salamander", Suit: api.Fire, Kind: api.Unit, Cost: value(low),
		Power: value(low), Health: value(low), Traits: trait.With(0, api.Venom),
		Parts: []api.Part{
			{When: api.Struck, Verb: api.Put, Whom: api.Self, Count: 1, Mark: api.Charge},
		},
	}
}

func forge() api.Card {
	return api.Card{
		Name: "forge", Suit: api.Fire, Kind: api.Relic, Cost: 4,
		Parts: []api.Part{
			{When: api.Begun, Verb: api.Call, Whom: api.You, Count: 1, Name: "ember"},
			{When: api.Rather, Verb: api.Twice, Whom: api.Foe},
		},
	}
}

func wildFire() api.Card {
	return api.Card{
		Name: "wild-fire", Suit: api.Fire, Kind: api.Spell, Cost: value(mid) - 1,
		Parts: []api.Part{
			{When: api.Played, Verb: api.Harm, Whom: api.All, Count: 2},
			{When: api.Played, Verb: api.Break, Whom: api.With, Trait: api.Guard},
		},
	}
}

func phoenix() api.Card {
	return api.Card{
		Name: "phoenix", Suit: api.Fire, Kind: api.Unit, Cost: 5,
		Power: 4, Health: value(step), Traits: trait.With(0, api.Fast),
		Parts: []api.Part{
			{When: api.Broken, Verb: api.Call, Whom: api.You, Count: 1, Name: "ember"},
			{When: api.Always, Verb: api.Base, Whom: api.With, Count: 1, Trait: api.Guard},
		},
	}
}
