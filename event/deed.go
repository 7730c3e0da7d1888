package event

import (
	"gambit/api"
	"gambit/thing"
)

// refusal tells why a deed may not be.
func (w *World) refusal(d api.Deed) api.Errno {
	switch {
	case !within(int(d.Verb), int(api.Harm), int(api.Put)) || !w.isSomeone(d.On),
		usesCount(d.Verb) && !within(d.Count, -api.MaxHarm, api.MaxHarm),
		d.Verb == api.Harm && !isWho(d.Holder),
		d.Verb == api.Put && !within(int(d.Mark), int(api.Up), int(api.Charge)):
		return api.ErrArg
	case d.Verb == api.Call:
		return w.refusalOfCall(d.Name)
	}
	return api.OK
}

// refusalOfCall tells why nothing is called by a name.
func (w *World) refusalOfCall(name string) api.Errno {
	n, missing := w.b.Find(name)
	if missing != api.OK {
		return missing
	}
	if c, _ := w.b.At(n); c.Kind == api.Spell {
		return api.ErrCard
	}
	return api.OK
}

// isSomeone tells whether a number is a player's or a thing's.
func (w *World) isSomeone(on int) bool { return isPlayer(on) || within(on, 1, w.zones.Len()) }

// usesCount tells whether a deed's verb uses Count.
func usesCount(v api.Verb) bool {
	switch v {
	case api.Harm, api.Mend, api.Draw, api.Drop, api.Gain, api.Call, api.Put:
		return true
	}
	return false
}

// times tells how many events a deed that may be makes.
func (w *World) times(d api.Deed) int {
	if !w.makesEvents(d) {
		return 0
	}
	switch d.Verb {
	case api.Draw, api.Drop, api.Call:
		return max(d.Count, 0)
	}
	return 1
}

// makesEvents tells whether a deed is of someone who may have its verb's events, and no harm or mending of nothing.
func (w *World) makesEvents(d api.Deed) bool {
	x := w.thing(d.On) // of a player none, which is on no table
	isOnTable := x.Place == api.Table
	switch d.Verb {
	case api.Harm, api.Mend:
		return (isPlayer(d.On) || thing.Unit(w.b, x)) && d.Count > 0
	case api.Break, api.Back, api.Put:
		return isOnTable
	}
	return isPlayer(d.On) || isOnTable
}

// event tells what each event of a deed does. The player whose event it is, is found here, ahead of the first one.
func (w *World) event(d api.Deed) func() {
	who := w.holder(d.On)
	switch d.Verb {
	case api.Harm:
		h := api.Happening{Verb: api.Harm, On: d.On, Count: d.Count, Holder: d.Holder, Venom: d.Venom, Drain: d.Drain}
		return func() { w.harm(h) }
	case api.Mend:
		return func() { w.mend(d.On, d.Count) }
	case api.Break:
		return func() { w.breakDown(d.On) }
	case api.Back:
		return func() { w.back(d.On) }
	case api.Draw:
		return func() { w.draw(who) }
	case api.Drop:
		return func() { w.drop(who) }
	case api.Gain:
		return func() { w.gain(who, d.Count) }
	case api.Call:
		card, _ := w.b.Find(d.Name)
		return func() { w.call(card, who) }
	}
	return func() { w.mark(d.On, d.Mark, d.Count) }
}

// isPlayer tells whether a number, as of one that an event is of, is a player's.
func isPlayer(on int) bool { return on == number(0) || on == number(1) }

// number tells a player's number, as of one that an event is of.
func number(who int) int { return -1 - who }

// holder tells the player whose number it is, or who holds the thing.
func (w *World) holder(on int) int {
	if isPlayer(on) {
		return -1 - on
	}
	return w.features()[on-1].Holder
}
