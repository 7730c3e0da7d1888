package earth

import (
	"gambit/api"
	"gambit/trait"
)

func boulder() api.Card {
	return api.Card{
		Name: "boulder", Suit: api.Earth, Kind: api.Unit, Cost: 2,
		Power: 1, Health: 4, Traits: trait.With(0, api.Guard),
		Parts: []api.Part{
			ofMark(part(api.Played, api.Put, api.Self, 1), api.Shield),
			part(api.Begun, api.Gain, api.You, 1),
		},
	}
}

func clayMan() api.Card {
	return api.Card{
		Name: "clay-man", Suit: api.Earth, Kind: api.Unit, Cost: 3,
		Power: 2, Health: 3,
		Parts: []api.Part{
			ofName(part(api.Broken, api.Call, api.You, 1), "pebble"),
			part(api.Begun, api.Mend, api.Self, 1),
		},
	}
}

func pebble() api.Card {
	return api.Card{
		Name: "pebble", Suit: api.Earth, Kind: api.Unit, Token: true,
		Power: 1, Health: 1,
	}
}

func landslide() api.Card {
	return api.Card{
		Name: "landslide", Suit: api.Earth, Kind: api.Spell, Cost: 4,
		Parts: []api.Part{
			part(api.Played, api.Harm, api.All, 2),
			ofTrait(part(api.Played, api.Break, api.With, 0), api.Guard),
		},
	}
}

func rampart() api.Card {
	return api.Card{
		Name: "rampart", Suit: api.Earth, Kind: api.Relic, Cost: 3,
		Parts: []api.Part{
			ofSuit(part(api.Always, api.Raise, api.Dyed, 1), api.Earth),
			ofTrait(part(api.Always, api.Grant, api.Rest, 0), api.Guard),
			part(api.Rather, api.Less, api.Yours, 1),
		},
	}
}

// golem calls a card of the suit Fire: a book without ember is not sealed with it.
func golem() api.Card {
	return api.Card{
		Name: "golem", Suit: api.Earth, Kind: api.Unit, Cost: 5,
		Power: 4, Health: 5,
		Parts: []api.Part{
			part(api.Struck, api.Mend, api.You, 2),
			part(api.Rather, api.Instead, api.Self, 1),
			ofName(part(api.Played, api.Call, api.Foe, 1), "ember"),
		},
	}
}
