package event_test

import (
	"math"
	"slices"
	"strings"
	"testing"

	"gambit/api"
)

// P22.3: which deeds may be, and which of them make no event.

// verbs are the nine.
func verbs() []api.Verb {
	return []api.Verb{api.Harm, api.Mend, api.Break, api.Back, api.Draw, api.Drop, api.Gain, api.Call, api.Put}
}

// deed is one of a verb that may be, if On and Count may.
func deed(v api.Verb, on, count int) api.Deed {
	d := api.Deed{Verb: v, On: on, Count: count}
	switch v {
	case api.Put:
		d.Mark = api.Charge
	case api.Call:
		d.Name = "bear"
	}
	return d
}

// usesCount tells whether a verb uses Count, by the chapter's list.
func usesCount(v api.Verb) bool { return v != api.Break && v != api.Back }

// wantRefused: Do refuses a deed, and nothing has changed.
func (sc scene) wantRefused(t *testing.T, d api.Deed, refused api.Errno) {
	t.Helper()
	w := sc.world(t)
	if e := w.Do(d); e != refused {
		t.Errorf("Do(%+v) = %d, want %d", d, e, refused)
	}
	sc.wantWorld(t, w, sc.s, 0)
}

// wantTaken: Do takes a deed.
func (sc scene) wantTaken(t *testing.T, d api.Deed) {
	t.Helper()
	w := sc.world(t)
	if e := w.Do(d); e != api.OK {
		t.Errorf("Do(%+v) = %d", d, e)
	}
}

func TestVerbs(t *testing.T) {
	sc := sound(t)
	for v := range 256 {
		for _, on := range []int{-2, -1, 1, 2, 3, 6, 13} {
			d := api.Deed{Verb: api.Verb(v), On: on, Count: 1, Mark: api.Charge, Name: "bear", Holder: 1}
			if slices.Contains(verbs(), d.Verb) {
				sc.wantTaken(t, d)
			} else {
				sc.wantRefused(t, d, api.ErrArg)
			}
		}
	}
}

func TestOn(t *testing.T) {
	sc := sound(t)
	for _, v := range verbs() {
		for on := 1; on <= 13; on++ {
			sc.wantTaken(t, deed(v, on, 1))
		}
		for _, on := range []int{-1, -2} {
			sc.wantTaken(t, deed(v, on, 1))
		}
		for _, on := range out(0, -3, 14, 15, 2048, 255, 256) {
			sc.wantRefused(t, deed(v, on, 1), api.ErrArg)
		}
	}
	for _, v := range verbs() {
		none := table(t)
		none.wantTaken(t, deed(v, -2, 1))
		none.wantRefused(t, deed(v, 1, 1), api.ErrArg)
		none.wantRefused(t, deed(v, 0, 1), api.ErrArg)
	}
}

// A deed may be of a thing that was called behind its world's making.
func TestOnAThingThatWasCalled(t *testing.T) {
	sc := sound(t)
	w := sc.world(t)
	if e := w.Do(harm(14, 1)); e != api.ErrArg {
		t.Errorf("Do = %d", e)
	}
	w.Do(call(-1, 1, "ox"))
	if e := w.Do(harm(14, 1)); e != api.OK || w.State().Things[13].Hurt != 1 {
		t.Errorf("Do = %d", e)
	}
	if e := w.Do(harm(15, 1)); e != api.ErrArg {
		t.Errorf("Do = %d", e)
	}
}

func TestCountOfADeed(t *testing.T) {
	sc := sound(t)
	for _, v := range verbs() {
		for _, on := range []int{-2, -1, 2, 3, 6} {
			for _, count := range []int{-9999, -9998, -1, 0, 1, 9998, 9999} {
				sc.wantTaken(t, deed(v, on, count))
			}
			for _, count := range out(10000, -10000, 10001, -10001) {
				if usesCount(v) {
					sc.wantRefused(t, deed(v, on, count), api.ErrArg)
				} else {
					sc.wantTaken(t, deed(v, on, count))
				}
			}
		}
	}
}

func TestHolderOfADeed(t *testing.T) {
	sc := sound(t)
	for _, v := range verbs() {
		for _, on := range []int{-2, -1, 2, 3, 6} {
			for _, holder := range out(-1, 0, 1, 2, 255, 256) {
				d := deed(v, on, 1)
				d.Holder = holder
				if v == api.Harm && holder != 0 && holder != 1 {
					sc.wantRefused(t, d, api.ErrArg)
				} else {
					sc.wantTaken(t, d)
				}
			}
		}
	}
}

func TestMarkOfADeed(t *testing.T) {
	sc := sound(t)
	for _, v := range verbs() {
		for _, on := range []int{-2, -1, 2, 3, 6} {
			for m := range 256 {
				d := deed(v, on, 1)
				d.Mark = api.Mark(m)
				if v == api.Put && (m < 1 || m > 4) {
					sc.wantRefused(t, d, api.ErrArg)
				} else {
					sc.wantTaken(t, d)
				}
			}
		}
	}
}

func TestNameOfADeed(t *testing.T) {
	sc := sound(t)
	for _, v := range verbs() {
		for _, on := range []int{-2, -1, 2, 3, 6, 13} {
			for _, count := range []int{-3, 0, 1} {
				for name, refused := range map[string]api.Errno{
					"bear": api.OK, "nest": api.OK, "wolf": api.OK, "ghost": api.OK, "zap": api.ErrCard,
					"": api.ErrMissing, "x": api.ErrMissing, "Bear": api.ErrMissing, "bears": api.ErrMissing, "bea": api.ErrMissing, "fast": api.ErrMissing, "shield": api.ErrMissing,
					strings.Repeat("bear", 1000): api.ErrMissing,
				} {
					d := deed(v, on, count)
					d.Name = name
					if v == api.Call && refused != api.OK {
						sc.wantRefused(t, d, refused)
					} else {
						sc.wantTaken(t, d)
					}
				}
			}
		}
	}
}

// What else may not be of a Call is told ahead of its name (rule 1).
func TestOrderOfErrorsOfACall(t *testing.T) {
	sc := sound(t)
	for _, name := range []string{"bear", "x", "zap"} {
		sc.wantRefused(t, call(14, 1, name), api.ErrArg)
		sc.wantRefused(t, call(0, 1, name), api.ErrArg)
		sc.wantRefused(t, call(-1, 10000, name), api.ErrArg)
	}
}

// A deed that may not be is refused where no event is left, too.
func TestRefusedWhereNoEventIsLeft(t *testing.T) {
	sc := sound(t)
	w := sc.world(t)
	w.Do(gain(-1, 0))
	spend(t, w, 256)
	want := w.State()
	for _, d := range []api.Deed{harm(0, 1), {Verb: api.Raise, On: 1}, harm(-1, 10000), put(1, 1, 5)} {
		if e := w.Do(d); e != api.ErrArg {
			t.Errorf("Do(%+v) = %d", d, e)
		}
	}
	if a, b := w.Do(call(-1, 1, "x")), w.Do(call(-1, 1, "zap")); a != api.ErrMissing || b != api.ErrCard {
		t.Errorf("Do = %d, %d", a, b)
	}
	sc.wantWorld(t, w, want, 256)
}

// The fields that a verb does not use count for nothing.
func TestFieldsThatCountForNothing(t *testing.T) {
	sc := table(t, "bear 0 table", "imp 1 table", "nest 0 table", "bear 0 deck", "bear 1 hand")
	for _, v := range verbs() {
		for _, on := range []int{-1, -2, 1, 2, 3} {
			plain := deed(v, on, 1)
			w := sc.world(t)
			w.Do(plain)
			want, count := w.State(), w.Count()
			other := plain
			if !usesCount(v) {
				other.Count = math.MinInt
			}
			if v != api.Put {
				other.Mark = 99
			}
			if v != api.Call {
				other.Name = "zap"
			}
			if v != api.Harm {
				other.Holder, other.Venom, other.Drain = -5, true, true
			}
			w = sc.world(t)
			if e := w.Do(other); e != api.OK {
				t.Errorf("Do(%+v) = %d", other, e)
			}
			sc.wantWorld(t, w, want, count)
		}
	}
}

// dying is a scene in which any settling would be seen: no health is left of the thing 1, a bear.
func dying(t testing.TB, lines ...string) scene {
	t.Helper()
	return table(t, append([]string{"bear 0 table"}, lines...)...).by(func(s *api.State) { s.Things[0].Hurt = 2 })
}

// What makes no event is not counted, and nothing is settled behind it.
func TestNoEvent(t *testing.T) {
	sc := dying(t, "nest 0 table", "ox 1 table", "bear 0 deck", "bear 1 hand", "bear 0 stack", "bear 1 grave", "zap 0 grave")
	for _, count := range []int{0, -1, -9999} {
		for _, on := range []int{-1, -2, 1, 2, 3} {
			for _, v := range []api.Verb{api.Harm, api.Mend, api.Draw, api.Drop, api.Call} {
				sc.wantNone(t, deed(v, on, count))
			}
		}
	}
	for _, count := range []int{1, 9999} {
		sc.wantNone(t, harm(2, count))
		sc.wantNone(t, mend(2, count))
		sc.wantNone(t, api.Deed{Verb: api.Harm, On: 2, Count: count, Venom: true, Drain: true})
	}
	for _, on := range []int{-1, -2} {
		sc.wantNone(t, breaking(on))
		sc.wantNone(t, back(on))
		sc.wantNone(t, put(on, 1, api.Up))
	}
	for on := 4; on <= 8; on++ {
		for _, v := range verbs() {
			sc.wantNone(t, deed(v, on, 1))
			sc.wantNone(t, deed(v, on, 3))
		}
	}
}

// Each other deed makes one, counted and settled behind, if it changes nothing by itself.
func TestEventsThatChangeNothing(t *testing.T) {
	sc := dying(t, "nest 0 table", "ox 1 table")
	settled := func(s *api.State) { come(s, 1, api.Grave) }
	for _, d := range []api.Deed{
		gain(-1, 0), gain(-2, -1), gain(3, -5), put(3, 0, api.Up), put(2, 0, api.Charge), put(3, -1, api.Down), put(2, -9999, api.Up),
		drop(-1, 1), drop(-2, 1), drop(2, 1), drop(3, 1), mend(3, 5),
	} {
		sc.wantDo(t, d, 2, settled)
	}
	// The first of three is settled behind: so the count is four.
	sc.wantDo(t, drop(-1, 3), 4, settled)
}
