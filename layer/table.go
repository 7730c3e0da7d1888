package layer

import (
	"cmp"
	"slices"

	"gambit/api"
	"gambit/effect"
	"gambit/trait"
	"gambit/whom"
)

// table is what lies on the table, by rising stamp, with the features as they are, each at its row's place. Of up to 2,048 things no more than these count.
type table struct {
	rows []row
	fs   []api.Feature
}

// row is a thing on the table.
type row struct {
	number int
	stamp  int
	card   api.Card
}

// standing is a standing effect, with the place of its thing's row.
type standing struct {
	api.Standing
	row int
}

// some are rows that are picked out, at their places.
type some [most]bool

// inOrder compares two effects by the order of effects: rows stand in the order of their stamps.
func inOrder(a, b standing) int {
	return cmp.Or(cmp.Compare(a.row, b.row), cmp.Compare(a.Place, b.Place))
}

// about tells the rows that an effect is about.
func (t table) about(s standing) some {
	var picked some
	for i := range t.rows {
		picked[i] = t.isAbout(s, i)
	}
	return picked
}

// isAbout tells whether an effect is about the row i.
func (t table) isAbout(s standing, i int) bool {
	x := whom.Candidate{Feature: t.fs[i], Unit: t.rows[i].card.Kind == api.Unit, Own: i == s.row}
	return whom.Is(s.What, t.fs[s.row].Holder, x)
}

// numbers tells the numbers of the things in rows that are picked out.
func (t table) numbers(picked some) []int {
	var list []int
	for i, r := range t.rows {
		if picked[i] {
			list = append(list, r.number)
		}
	}
	return list
}

// apply tells the table with an effect applied. The table that it is asked of stays.
func (t table) apply(s standing) table {
	picked, holder := t.about(s), t.fs[s.row].Holder
	t.fs = slices.Clone(t.fs)
	for i, f := range t.fs {
		if picked[i] {
			t.fs[i] = changed(f, s.What, holder)
		}
	}
	return t
}

// changed tells features as a part that stands makes them.
func changed(f api.Feature, what api.Part, holder int) api.Feature {
	switch what.Verb {
	case api.Seize:
		f.Holder = holder
	case api.Dye:
		f.Suit = what.Suit
	case api.Grant:
		f.Traits = trait.With(f.Traits, what.Trait)
	case api.Strip:
		f.Traits = trait.Without(f.Traits, what.Trait)
	case api.Base:
		f.Power, f.Health = what.Count, what.Count
	case api.Raise:
		f.Power += what.Count
		f.Health += what.Count
	}
	return f
}

// depends tells whether an effect would be about others, were the other one applied.
func (t table) depends(s, other standing) bool {
	return t.about(s) != t.apply(other).about(s)
}

// next tells which of effects, of which there is one at least, and which stand in their order, comes next.
func (t table) next(left []standing) int {
candidates:
	for i, s := range left {
		for j, other := range left {
			if i != j && t.depends(s, other) {
				continue candidates
			}
		}
		return i
	}
	return 0
}

// effects tells the standing effects of a layer, in their order, of all things that are not Mute.
func (t table) effects(k int) []standing {
	var list []standing
	for i, r := range t.rows {
		if trait.Has(t.fs[i].Traits, api.Mute) {
			continue
		}
		for place, p := range r.card.Parts {
			if p.When == api.Always && effect.Layer(p.Verb) == k {
				list = append(list, standing{api.Standing{Thing: r.number, Place: place, What: p}, i})
			}
		}
	}
	return list
}

// among tells features of all things: those that were handed in, and those of the table where its things are.
func (t table) among(fs []api.Feature) []api.Feature {
	all := slices.Clone(fs)
	for i, r := range t.rows {
		all[r.number-1] = t.fs[i]
	}
	return all
}
