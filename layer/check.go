package layer

import (
	"cmp"
	"slices"

	"gambit/api"
	"gambit/book"
	"gambit/effect"
	"gambit/thing"
	"gambit/trait"
)

// most is how many things may lie on the table, whoever owns them.
const most = 2 * api.MaxTable

// look tells the table, and effects with the rows of their things, or why that can't be.
func look(b *book.Book, things []api.Thing, fs []api.Feature, listed ...api.Standing) (table, []standing, api.Errno) {
	if refused := refusal(b, things); refused != api.OK {
		return table{}, nil, refused
	}
	now, ok := lay(b, things, fs)
	if !ok {
		return table{}, nil, api.ErrArg
	}
	effects, ok := now.list(listed)
	if !ok {
		return table{}, nil, api.ErrArg
	}
	return now, effects, api.OK
}

// refusal tells why things can't be held against a book at all. What is no book is not sealed either, so At is asked ahead of that.
func refusal(b *book.Book, things []api.Thing) api.Errno {
	_, missing := b.At(0)
	switch {
	case missing == api.ErrNil:
		return api.ErrNil
	case len(things) > api.MaxThings:
		return api.ErrLong
	case !b.Sealed():
		return api.ErrArg
	}
	return api.OK
}

// lay tells the table out of all things and their features: false, if they and a sealed book do not go together.
func lay(b *book.Book, things []api.Thing, fs []api.Feature) (table, bool) {
	if len(things) != len(fs) {
		return table{}, false
	}
	var rows []row
	for i, x := range things {
		switch {
		case !mayBe(b, x):
			return table{}, false
		case x.Place != api.Table:
			continue
		case len(rows) == most || !mayLie(x, fs[i]):
			return table{}, false
		}
		c, _ := thing.Card(b, x) // no error: its number is a card's
		if c.Kind == api.Spell {
			return table{}, false
		}
		rows = append(rows, row{number: i + 1, stamp: x.Stamp, card: c})
	}
	slices.SortFunc(rows, func(a, b row) int { return cmp.Compare(a.stamp, b.stamp) })
	return table{rows, pick(rows, fs)}, stampsDiffer(rows)
}

// mayBe tells whether a thing may be, wherever it is.
func mayBe(b *book.Book, x api.Thing) bool {
	return x.Card >= 1 && x.Card <= b.Len() && isPlayer(x.Owner) && x.Place >= api.Deck && x.Place <= api.Grave
}

// mayLie tells whether a thing may lie on the table with its features.
func mayLie(x api.Thing, f api.Feature) bool {
	return x.Stamp > 0 && isPlayer(f.Holder) && trait.Check(f.Traits)
}

func isPlayer(who int) bool { return who == 0 || who == 1 }

// pick tells the features of the rows alone, in their order.
func pick(rows []row, fs []api.Feature) []api.Feature {
	picked := make([]api.Feature, len(rows))
	for i, r := range rows {
		picked[i] = fs[r.number-1]
	}
	return picked
}

// stampsDiffer tells whether no two rows, which are in the order of stamps, have one stamp.
func stampsDiffer(rows []row) bool {
	for i := 1; i < len(rows); i++ {
		if rows[i].stamp == rows[i-1].stamp {
			return false
		}
	}
	return true
}

// list tells effects with the rows of their things: false, if they may not be listed. It stops at the first that may not, so that a list that was handed in, however long, costs no more than one that may be.
func (t table) list(listed []api.Standing) ([]standing, bool) {
	var effects []standing
	for _, s := range listed {
		found, ok := t.find(s)
		if !ok || !found.joins(effects) {
			return nil, false
		}
		effects = append(effects, found)
	}
	return effects, true
}

// find tells an effect with the row of its thing: false, if it may not be.
func (t table) find(s api.Standing) (standing, bool) {
	at := slices.IndexFunc(t.rows, func(r row) bool { return r.number == s.Thing })
	if at < 0 || !hasStanding(t.rows[at].card, s) {
		return standing{}, false
	}
	return standing{s, at}, true
}

// hasStanding tells whether a card has an effect's part, standing, at the effect's place.
func hasStanding(c api.Card, s api.Standing) bool {
	if s.Place < 0 || s.Place >= len(c.Parts) {
		return false
	}
	return s.What.When == api.Always && effect.Same(c.Parts[s.Place], s.What)
}

// joins tells whether an effect may stand in a list behind others.
func (s standing) joins(others []standing) bool {
	for _, other := range others {
		again := s.Thing == other.Thing && s.Place == other.Place
		if again || effect.Layer(s.What.Verb) != effect.Layer(other.What.Verb) {
			return false
		}
	}
	return true
}
