package event

import (
	"slices"

	"gambit/api"
	"gambit/swap"
	"gambit/thing"
	"gambit/trait"
	"gambit/view"
)

// begins tells whether an event may begin, and counts it then.
func (w *World) begins() bool {
	if w.count == api.MaxSteps {
		return false
	}
	w.count++
	return true
}

// swapped tells what an event is behind its swaps: the zero one, if it is none. What these take and give is done.
func (w *World) swapped(h api.Happening) api.Happening {
	told, _ := swap.All(w.b, w.zones.Things(), w.features(), h) // no error: what begins is of a player or of what lies on the table
	switch {
	case told.Gone > 0:
		w.mark(h.On, api.Shield, -told.Gone)
	case told.Life > 0:
		w.mend(h.On, told.Life)
	}
	return told.After
}

// harm does a harm of a player or a unit.
func (w *World) harm(h api.Happening) {
	h = w.swapped(h)
	switch {
	case h == api.Happening{}:
		return
	case isPlayer(h.On):
		w.rest.Life[w.holder(h.On)] -= h.Count
	default:
		w.hurt(h.On, h.Count)
		if h.Venom && w.begins() {
			w.breakDown(h.On)
		}
	}
	if h.Drain && w.begins() {
		w.mend(number(h.Holder), h.Count)
	}
}

// mend does a mending of a player or a unit.
func (w *World) mend(on, count int) {
	if !isPlayer(on) {
		w.hurt(on, -count)
		return
	}
	life := &w.rest.Life[w.holder(on)]
	*life = min(*life+count, api.MaxLife)
}

// breakDown does a break of a unit or relic.
func (w *World) breakDown(n int) {
	h := w.swapped(api.Happening{Verb: api.Break, On: n})
	if h == (api.Happening{}) {
		return
	}
	f := w.features()[n-1] // as it was ahead of leaving the table
	w.move(n, api.Grave)
	if !trait.Has(f.Traits, api.Mute) {
		w.putParts(n, api.Broken, f.Holder)
	}
}

// back does a thing's coming back into its owner's hand.
func (w *World) back(n int) {
	if c, _ := thing.Card(w.b, w.thing(n)); c.Token {
		w.move(n, api.Grave)
		return
	}
	w.toHand(n)
}

// draw does a player's drawing of one card.
func (w *World) draw(who int) {
	h := w.swapped(api.Happening{Verb: api.Draw, On: number(who)})
	if h == (api.Happening{}) {
		return
	}
	if deck := w.zones.Deck(who); len(deck) > 0 {
		w.toHand(deck[0])
		return
	}
	w.rest.Nothing[who]++
	if w.begins() {
		w.harm(api.Happening{Verb: api.Harm, On: number(who), Count: min(w.rest.Nothing[who], api.MaxHarm)})
	}
}

// drop does a player's dropping of one card.
func (w *World) drop(who int) {
	if hand := w.zones.Hand(who); len(hand) > 0 {
		w.move(hand[len(hand)-1], api.Grave)
	}
}

// gain does a player's gaining, or losing, of mana.
func (w *World) gain(who, count int) {
	w.rest.Mana[who] = bound(w.rest.Mana[who]+count, api.MaxMana)
}

// call makes one thing of a card, if there is room. It settles by itself, for the thing's parts come onto the stack behind that, on top of those of what broke: the settling that follows finds nothing left to do.
func (w *World) call(card, who int) {
	n, full := w.zones.Make(card, who)
	if full != api.OK {
		return
	}
	w.fs = nil
	w.settle()
	w.putParts(n, api.Played, who)
}

// mark lays marks on a thing, or takes some away.
func (w *World) mark(n int, m api.Mark, count int) {
	x := w.thing(n)
	x.Marks[m-1] = bound(x.Marks[m-1]+count, api.MaxMarks)
	w.zones.Write(n, x)
	w.fs = nil
}

// hurt lays harm on a unit, or takes some away. No feature hangs on it.
func (w *World) hurt(n, count int) {
	x := w.thing(n)
	x.Hurt = max(x.Hurt+count, 0)
	w.zones.Write(n, x)
}

// come takes a thing that was played off the stack, and tells whether it came to the table.
func (w *World) come(n int) bool {
	w.stack = slices.DeleteFunc(w.stack, func(i api.Item) bool { return i.Thing == n && i.Part == 0 })
	c, _ := thing.Card(w.b, w.thing(n))
	if c.Kind == api.Spell || w.move(n, api.Table) != api.OK {
		w.move(n, api.Grave)
		return false
	}
	w.settle()
	return true
}

// settle breaks units that have no health left, as long as there is one and events are left.
func (w *World) settle() {
	for n := w.dying(); n > 0 && w.begins(); n = w.dying() {
		w.breakDown(n)
	}
}

// dying tells the first unit, by stamp, that has no health left: 0, if there is none.
func (w *World) dying() int {
	fs := w.features()
	for _, n := range w.zones.Table() {
		if x := w.thing(n); thing.Unit(w.b, x) && thing.Left(fs[n-1], x) <= 0 {
			return n
		}
	}
	return 0
}

// features tells what things are. They are found anew only behind what they hang on: most of what happens changes nothing of that.
func (w *World) features() []api.Feature {
	if w.fs == nil {
		w.fs, _ = view.Of(w.b, w.zones.Things()) // no error: the state may be
	}
	return w.fs
}

// thing tells a thing that there is.
func (w *World) thing(n int) api.Thing {
	x, _ := w.zones.Thing(n)
	return x
}

// toHand lets a thing come into its owner's hand, or, if that is full, into the grave.
func (w *World) toHand(n int) {
	if w.move(n, api.Hand) != api.OK {
		w.move(n, api.Grave)
	}
}

// move lets a thing come to a place, if there is room.
func (w *World) move(n int, to api.Place) api.Errno {
	if to == api.Table || w.thing(n).Place == api.Table {
		w.fs = nil
	}
	return w.zones.Move(n, to)
}

// putParts puts the parts of a moment of a thing's card on the stack, the last one first.
func (w *World) putParts(n int, when api.When, holder int) {
	places, _ := thing.Parts(w.b, w.thing(n), when)
	for _, place := range slices.Backward(places) {
		w.put(api.Item{Thing: n, Part: place + 1, Holder: holder})
	}
}

// put puts an item on the stack: where that is full the item is lost.
func (w *World) put(i api.Item) {
	if len(w.stack) < api.MaxStack {
		w.stack = append(w.stack, i)
	}
}

// bound tells a number as one from 0 to a greatest one.
func bound(number, most int) int { return min(max(number, 0), most) }
