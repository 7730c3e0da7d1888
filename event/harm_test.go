package event_test

import (
	"testing"

	"gambit/api"
)

// P22.3: Harm and Mend, with what follows on a harm.

func hurt(n, count int) func(*api.State) {
	return func(s *api.State) { s.Things[n-1].Hurt += count }
}

func life(who, count int) func(*api.State) {
	return func(s *api.State) { s.Life[who] += count }
}

func grave(numbers ...int) func(*api.State) {
	return func(s *api.State) {
		for _, n := range numbers {
			come(s, n, api.Grave)
		}
	}
}

// shields lays so many Shield marks on a thing.
func shields(n, count int) func(*api.State) {
	return func(s *api.State) { s.Things[n-1].Marks[api.Shield-1] = count }
}

// all makes several changes, one behind the other.
func all(changes ...func(*api.State)) func(*api.State) {
	return func(s *api.State) {
		for _, change := range changes {
			change(s)
		}
	}
}

func nothing(*api.State) {}

// venom, drain and by are deeds of what harms so.
func venom(d api.Deed) api.Deed { d.Venom = true; return d }

func drain(d api.Deed) api.Deed { d.Drain = true; return d }

func by(d api.Deed, holder int) api.Deed { d.Holder = holder; return d }

func TestHarm(t *testing.T) {
	sc := table(t, "ox 0 table", "ox 1 table", "nest 0 table").by(hurt(1, 2))
	for _, count := range []int{1, 2, 6} {
		sc.wantDo(t, harm(1, count), 1, hurt(1, count))
		sc.wantDo(t, by(harm(2, count), 1), 1, hurt(2, count))
		sc.wantDo(t, harm(-1, count), 1, life(0, -count))
		sc.wantDo(t, by(harm(-2, count), 1), 1, life(1, -count))
		sc.wantDo(t, venom(harm(-2, count)), 1, life(1, -count))
	}
	sc.wantDo(t, harm(-2, 9999), 1, life(1, -9999))
	sc.wantDo(t, harm(1, 7), 2, grave(1))
	sc.wantDo(t, harm(1, 9999), 2, grave(1))
	sc.wantDo(t, harm(2, 8), 1, hurt(2, 8))
}

// One harm behind the other.
func TestHarmAddsUp(t *testing.T) {
	sc := table(t, "ox 0 table")
	w := sc.world(t)
	for range 4 {
		w.Do(harm(1, 2))
		w.Do(harm(-2, 15))
	}
	sc.wantWorld(t, w, sc.by(all(hurt(1, 8), life(1, -60))).s, 8)
}

// Where Hurt and Life stand far from 0 they go on.
func TestHarmFarOff(t *testing.T) {
	sc := table(t, "ox 0 table").by(all(hurt(1, 900000000), func(s *api.State) { s.Life[1] = -900000000 }))
	w := sc.world(t)
	w.Do(gain(-1, 0)) // no health is left
	sc.wantWorld(t, w, sc.by(grave(1)).s, 2)
	sc.wantDo(t, harm(-2, 9999), 2, all(grave(1), life(1, -9999)))
	spend(t, w, 255)
	w.Do(harm(-2, 9999))
	sc.wantWorld(t, w, sc.by(all(grave(1), life(1, -9999))).s, 256)
}

func TestHarmOfAShielded(t *testing.T) {
	for _, count := range []int{1, 2, 99} {
		sc := table(t, "ox 0 table", "imp 1 table", "bear 0 table").by(all(shields(1, count), hurt(3, 2)))
		settled := all(shields(1, count-1), grave(3))
		sc.wantDo(t, harm(1, 1), 2, settled)
		sc.wantDo(t, harm(1, 9999), 2, settled)
		// Nothing was harmed: neither Venom nor Drain is of anything.
		sc.wantDo(t, drain(venom(harm(1, 5))), 2, settled)
	}
	// A player is no unit, whatever lies on its things.
	sc := table(t, "ox 0 table").by(shields(1, 3))
	sc.wantDo(t, harm(-1, 4), 1, life(0, -4))
}

func TestHarmIsSwapped(t *testing.T) {
	sc := table(t, "wall 0 table", "ox 0 table", "ox 1 table")
	sc.wantDo(t, harm(2, 3), 1, hurt(2, 2))
	sc.wantDo(t, harm(3, 3), 1, hurt(3, 3))
	sc.wantDo(t, drain(venom(harm(2, 1))), 1, nothing)
	sc.wantDo(t, drain(harm(2, 3)), 2, all(hurt(2, 2), life(0, 2)))
	sc = table(t, "curse 0 table", "ox 1 table")
	sc.wantDo(t, harm(-2, 3), 1, life(1, -6))
	sc.wantDo(t, harm(-1, 3), 1, life(0, -3))
	sc.wantDo(t, harm(-2, 5000), 1, life(1, -9999))
	sc.wantDo(t, harm(-2, 9999), 1, life(1, -9999))
	sc.wantDo(t, by(drain(harm(-2, 3)), 0), 2, all(life(1, -6), life(0, 6)))
	sc = table(t, "mirror 0 table", "ox 0 table")
	sc.wantDo(t, harm(-1, 3), 1, life(1, -3))
	sc.wantDo(t, harm(2, 3), 1, hurt(2, 3))
	sc.wantDo(t, by(drain(harm(-1, 3)), 1), 2, nothing) // the player 1 drains its own
	sc = table(t, "curse 0 table", "mirror 0 table")
	sc.wantDo(t, harm(-1, 3), 1, life(1, -6))
}

// A harm that is turned from a unit to a player has hurt no unit.
func TestHarmIsTurnedFromAUnit(t *testing.T) {
	sc := table(t, "prism 0 table", "ox 0 table", "ox 1 table")
	sc.wantDo(t, harm(2, 3), 1, life(1, -3))
	sc.wantDo(t, venom(harm(2, 3)), 1, life(1, -3))
	sc.wantDo(t, drain(venom(harm(2, 3))), 2, all(life(1, -3), life(0, 3)))
	sc.wantDo(t, venom(harm(3, 3)), 2, grave(3))
}

// Swaps go by the features: a wall is for the units of who holds it, and a seized ox is no more its owner's.
func TestHarmIsSwappedByFeatures(t *testing.T) {
	sc := table(t, "wall 0 table", "ox 1 table", "thief 0 table")
	sc.wantDo(t, harm(2, 3), 1, hurt(2, 2))
	w := sc.world(t)
	w.Do(back(3))
	w.Do(harm(2, 3))
	sc.wantWorld(t, w, sc.by(all(hurt(2, 3), func(s *api.State) { come(s, 3, api.Hand) })).s, 2)
}

func TestVenom(t *testing.T) {
	sc := table(t, "ox 0 table", "imp 1 table", "ghost 1 table", "golem 0 table")
	sc.wantDo(t, venom(harm(1, 1)), 2, grave(1))
	sc.wantDo(t, venom(harm(2, 1)), 2, all(grave(2), imps(2, 1)))
	sc.wantDo(t, venom(harm(3, 1)), 2, grave(3))
	sc.wantDo(t, venom(harm(4, 1)), 2, all(grave(4), func(s *api.State) { item(s, 4, 2, 0) }))
	sc.wantDo(t, venom(harm(-1, 1)), 1, life(0, -1))
	sc.wantDo(t, harm(1, 1), 1, hurt(1, 1))
}

// imps are an imp's Broken parts on the stack.
func imps(n, holder int) func(*api.State) {
	return func(s *api.State) {
		item(s, n, 3, holder)
		item(s, n, 1, holder)
	}
}

// Venom's break is ahead of the settling: what breaks then has its items on top.
func TestVenomIsAheadOfTheSettling(t *testing.T) {
	sc := table(t, "imp 0 table", "imp 1 table", "ox 1 table").by(hurt(1, 1))
	sc.wantDo(t, venom(harm(2, 1)), 3, all(grave(2), imps(2, 1), grave(1), imps(1, 0)))
	sc.wantDo(t, harm(2, 1), 3, all(grave(1), imps(1, 0), grave(2), imps(2, 1)))
	sc.wantDo(t, venom(harm(3, 1)), 3, all(grave(3), grave(1), imps(1, 0)))
}

func TestDrain(t *testing.T) {
	sc := table(t, "ox 0 table", "bear 1 table")
	for holder := range 2 {
		sc.wantDo(t, by(drain(harm(1, 3)), holder), 2, all(hurt(1, 3), life(holder, 3)))
		sc.wantDo(t, by(drain(harm(2, 3)), holder), 3, all(grave(2), life(holder, 3)))
		sc.wantDo(t, by(drain(harm(-1, 3)), holder), 2, all(life(0, -3), life(holder, 3)))
		sc.wantDo(t, by(drain(venom(harm(1, 3))), holder), 3, all(grave(1), life(holder, 3)))
		sc.wantDo(t, by(drain(harm(-2, 9999)), holder), 2, func(s *api.State) {
			s.Life[1] -= 9999
			s.Life[holder] = min(s.Life[holder]+9999, 30)
		})
		sc.wantDo(t, by(harm(1, 3), holder), 1, hurt(1, 3))
	}
	high := sc.by(func(s *api.State) { s.Life = [2]int{28, 30} })
	high.wantDo(t, drain(harm(1, 2)), 2, all(hurt(1, 2), life(0, 2)))
	high.wantDo(t, drain(harm(1, 3)), 2, all(hurt(1, 3), life(0, 2)))
	high.wantDo(t, by(drain(harm(1, 3)), 1), 2, hurt(1, 3))
}

// Of what follows on a harm, Venom's break comes first, then Drain's mending, then the settling: each is lost where no event is left.
func TestWhatFollowsAHarmIsBounded(t *testing.T) {
	sc := table(t, "lord 0 table", "bear 0 table").by(hurt(2, 2))
	sc.wantBounded(t, venom(drain(harm(1, 3))),
		nothing,
		hurt(1, 3),
		grave(1),
		all(grave(1), life(0, 3)),
		all(grave(1, 2), life(0, 3)),
	)
	sc.wantBounded(t, drain(harm(1, 3)), nothing, hurt(1, 3), all(hurt(1, 3), life(0, 3)), all(grave(1), life(0, 3)), all(grave(1, 2), life(0, 3)))
	sc.wantBounded(t, harm(-1, 3), nothing, life(0, -3))
	// A harm that is swapped away counts all the same.
	sc.by(shields(1, 2)).wantBounded(t, harm(1, 3), nothing, shields(1, 1))
}

func TestMend(t *testing.T) {
	sc := table(t, "ox 0 table", "ox 1 table").by(all(hurt(1, 5), hurt(2, 8)))
	for _, count := range []int{1, 4, 5} {
		sc.wantDo(t, mend(1, count), 1, hurt(1, -count))
		sc.wantDo(t, mend(2, count), 1, hurt(2, -count))
		sc.wantDo(t, mend(-1, count), 1, life(0, count))
		sc.wantDo(t, mend(-2, count), 1, life(1, count))
	}
	for _, count := range []int{6, 9999} {
		sc.wantDo(t, mend(1, count), 1, hurt(1, -5))
	}
	for _, count := range []int{10, 11, 9999} {
		sc.wantDo(t, mend(-1, count), 1, life(0, 10))
		sc.wantDo(t, mend(-2, count), 1, life(1, 10))
	}
	low := sc.by(func(s *api.State) { s.Life = [2]int{-50, -1000000000} })
	low.wantDo(t, mend(-1, 80), 1, life(0, 80))
	low.wantDo(t, mend(-1, 81), 1, life(0, 80))
	low.wantDo(t, mend(-2, 9999), 1, life(1, 9999))
	sc.wantBounded(t, mend(1, 5), nothing, hurt(1, -5))
}

// Neither swaps nor Shields are for a mending: what it mends is settled behind it.
func TestMendOfWhatWouldBreak(t *testing.T) {
	sc := table(t, "wall 0 table", "bear 0 table", "bear 0 table", "curse 1 table").by(all(hurt(2, 4), hurt(3, 4), shields(2, 1)))
	sc.wantDo(t, mend(2, 3), 2, all(hurt(2, -3), grave(3)))
	sc.wantDo(t, mend(-1, 3), 3, all(grave(2, 3), life(0, 3)))
}
