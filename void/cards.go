package void

import (
	"gambit/api"
	"gambit/trait"
)

func hush() api.Card {
	return api.Card{
		Name: "hush", Suit: api.Void, Kind: api.Spell, Cost: 2,
		Parts: []api.Part{
			ofMark(part(api.Played, api.Put, api.It, 2), api.Down),
			part(api.Played, api.Harm, api.It, 1),
		},
	}
}

func nullifier() api.Card {
	return api.Card{
		Name: "nullifier", Suit: api.Void, Kind: api.Unit, Cost: 4,
		Power: 2, Health: 4,
		Parts: []api.Part{
			ofTrait(ofSuit(part(api.Always, api.Grant, api.Dyed, 0), api.Fire), api.Mute),
			ofTrait(part(api.Always, api.Strip, api.Theirs, 0), api.Swift),
		},
	}
}

func shade() api.Card {
	return api.Card{
		Name: "shade", Suit: api.Void, Kind: api.Unit, Token: true,
		Power: 1, Health: 1, Traits: trait.With(0, api.Lone),
	}
}

func thief() api.Card {
	return api.Card{
		Name: "thief", Suit: api.Void, Kind: api.Unit, Cost: 6,
		Power: 2, Health: 2, Traits: trait.With(0, api.Lone),
		Parts: []api.Part{
			ofTrait(part(api.Always, api.Seize, api.With, 0), api.Guard),
			part(api.Broken, api.Harm, api.All, 1),
		},
	}
}

func hollow() api.Card {
	return api.Card{
		Name: "hollow", Suit: api.Void, Kind: api.Relic, Cost: 3,
		Parts: []api.Part{
			part(api.Rather, api.Twice, api.Foe, 0),
			part(api.Rather, api.Turned, api.You, 0),
			ofTrait(part(api.Always, api.Base, api.With, 2), api.Drain),
		},
	}
}

// echo calls a card of the suit Air: a book without wisp is not sealed with it.
func echo() api.Card {
	return api.Card{
		Name: "echo", Suit: api.Void, Kind: api.Unit, Cost: 3,
		Power: 2, Health: 2,
		Parts: []api.Part{
			ofName(part(api.Played, api.Call, api.You, 2), "wisp"),
			part(api.Begun, api.Draw, api.You, 1),
			ofName(part(api.Broken, api.Call, api.Foe, 1), "shade"),
			ofSuit(part(api.Always, api.Dye, api.Rest, 0), api.Void),
		},
	}
}
