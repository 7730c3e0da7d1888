package swap

import (
	"slices"

	"gambit/api"
)

// change tells what a swap makes of an event, by the swap's Count and who holds its thing.
type change func(h api.Happening, count, holder int) api.Happening

// changes has the change of each swapping verb.
func changes() map[api.Verb]change {
	return map[api.Verb]change{
		api.Less: func(h api.Happening, count, _ int) api.Happening {
			h.Count -= count
			return h
		},
		api.Twice: func(h api.Happening, _, _ int) api.Happening {
			h.Count = min(2*h.Count, api.MaxHarm)
			return h
		},
		api.Turned: func(h api.Happening, _, holder int) api.Happening {
			h.On = number(foe(holder))
			return h
		},
		api.Instead: func(api.Happening, int, int) api.Happening {
			return api.Happening{}
		},
	}
}

// isNoHarm tells whether an event is a harm of nothing, which is none.
func isNoHarm(h api.Happening) bool { return h.Verb == api.Harm && h.Count < 1 }

// behind tells what an event is behind a swap that swaps it: the zero one, if it is none then.
func (sc scene) behind(h api.Happening, s api.Standing) api.Happening {
	made := changes()[s.What.Verb](h, s.What.Count, sc.holder(s))
	if isNoHarm(made) {
		return api.Happening{}
	}
	return made
}

// next tells what an event is behind the first swap that was not used and swaps it.
func (sc scene) next(h api.Happening, used []api.Standing) (api.Happening, api.Standing, bool) {
	for _, s := range sc.list {
		if !isAmong(used, s) && sc.swaps(s, h) {
			return sc.behind(h, s), s, true
		}
	}
	return api.Happening{}, api.Standing{}, false
}

// isAmong tells whether a swap is among those that were used: these are known by thing and place, whatever else they say.
func isAmong(used []api.Standing, s api.Standing) bool {
	return slices.ContainsFunc(used, func(other api.Standing) bool {
		return other.Thing == s.Thing && other.Place == s.Place
	})
}

// all tells an event behind all swaps, the Shield marks ahead of these being passed over.
func (sc scene) all(h api.Happening) api.Swapped {
	end := api.Swapped{After: h}
	for end.After != (api.Happening{}) {
		after, s, ok := sc.next(end.After, end.Used)
		if !ok {
			return end
		}
		end.After, end.Used = after, append(end.Used, s)
		// Of these two one swap makes none, so that no later one is asked.
		switch h.Verb {
		case api.Break:
			end.Gone = s.What.Count
		case api.Draw:
			end.Life = s.What.Count
		}
	}
	return end
}
