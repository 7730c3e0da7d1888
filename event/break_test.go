package event_test

import (
	"testing"

	"gambit/api"
	"gambit/book"
	"gambit/card"
)

// P22.3: Break, Back, Put, Gain, and the settling.

func TestBreak(t *testing.T) {
	sc := table(t, "ox 0 table", "nest 1 table", "imp 1 table", "bomb 0 table", "golem 1 table", "charm 0 table").by(all(hurt(1, 3), shields(2, 2)))
	sc.wantDo(t, breaking(1), 1, grave(1))
	sc.wantDo(t, breaking(2), 1, grave(2))
	sc.wantDo(t, breaking(3), 1, all(grave(3), imps(3, 1)))
	sc.wantDo(t, breaking(4), 1, all(grave(4), func(s *api.State) { item(s, 4, 1, 0) }))
	sc.wantDo(t, breaking(5), 1, all(grave(5), func(s *api.State) { item(s, 5, 2, 1) }))
	sc.wantDo(t, breaking(6), 1, grave(6))
	sc.wantBounded(t, breaking(3), nothing, all(grave(3), imps(3, 1)))
}

// A thing in a grave is what it was ahead of the table.
func TestNothingLiesOnABrokenThing(t *testing.T) {
	sc := table(t, "ox 0 table").by(func(s *api.State) {
		s.Things[0].Marks, s.Things[0].Hurt, s.Things[0].Done, s.Things[0].Fresh = [4]int{1, 2, 3, 4}, 5, 2, true
	})
	w := sc.world(t)
	w.Do(breaking(1))
	if x := w.State().Things[0]; x != (api.Thing{Card: number(t, sc.b, "ox"), Place: api.Grave}) {
		t.Errorf("the ox is %+v", x)
	}
}

func TestBreakIsSwapped(t *testing.T) {
	sc := table(t, "golem 0 table", "ox 1 table", "bear 1 table").by(all(shields(1, 2), shields(2, 2), hurt(3, 2)))
	sc.wantDo(t, breaking(1), 2, all(shields(1, 1), grave(3)))
	sc.wantDo(t, breaking(2), 2, grave(2, 3))
	w := sc.world(t)
	for range 3 {
		w.Do(breaking(1))
	}
	sc.wantWorld(t, w, sc.by(all(grave(3, 1), func(s *api.State) { item(s, 1, 2, 0) })).s, 4)
	sc.by(hurt(3, -2)).wantBounded(t, breaking(1), nothing, shields(1, 1))
}

// A Mute thing leaves no items, by its card or by what stands.
func TestBreakOfAMute(t *testing.T) {
	sc := table(t, "ghost 0 table", "imp 0 table", "hush 1 table", "bomb 1 table", "golem 0 table").by(shields(5, 1))
	sc.wantDo(t, breaking(1), 1, grave(1))
	sc.wantDo(t, breaking(2), 1, grave(2))
	sc.wantDo(t, breaking(5), 1, grave(5))                                               // nor has it a swap
	sc.wantDo(t, breaking(4), 1, all(grave(4), func(s *api.State) { item(s, 4, 1, 1) })) // hush is of units
	sc.wantDo(t, put(2, -1, api.Up), 1, nothing)                                         // Mute is nothing else
	w := sc.world(t)
	w.Do(breaking(3))
	w.Do(breaking(2))
	sc.wantWorld(t, w, sc.by(all(grave(3, 2), imps(2, 0))).s, 2)
}

// The items are of who held what broke, the grave is its owner's.
func TestBreakOfWhatIsSeized(t *testing.T) {
	sc := table(t, "imp 1 table", "thief 0 table", "golem 1 table")
	sc.wantDo(t, breaking(1), 1, all(grave(1), imps(1, 0)))
	sc.wantDo(t, breaking(3), 1, all(grave(3), func(s *api.State) { item(s, 3, 2, 0) }))
	w := sc.world(t)
	w.Do(breaking(2))
	w.Do(breaking(1))
	sc.wantWorld(t, w, sc.by(all(grave(2, 1), imps(1, 1))).s, 2)
}

// stackOf lays so many items on the stack: a thing's parts, in turn.
func stackOf(count int) func(*api.State) { return func(s *api.State) { fillStack(s, count) } }

// Where the stack is full items are lost: of a thing's the last part is the first to come.
func TestBreakOnAFullStack(t *testing.T) {
	sc := table(t, "wolf 0 table", "imp 1 table")
	sc.by(stackOf(22)).wantDo(t, breaking(2), 1, all(grave(2), imps(2, 1)))
	sc.by(stackOf(23)).wantDo(t, breaking(2), 1, all(grave(2), func(s *api.State) { item(s, 2, 3, 1) }))
	sc.by(stackOf(24)).wantDo(t, breaking(2), 1, grave(2))
}

// hands lays things into an owner's hand, till it has so many.
func hands(owner, count int) func(*api.State) {
	return func(s *api.State) {
		for len(s.Hands[owner]) < count {
			s.Things = append(s.Things, api.Thing{Card: 1, Owner: owner, Place: api.Hand})
			s.Hands[owner] = append(s.Hands[owner], len(s.Things))
		}
	}
}

func hand(numbers ...int) func(*api.State) {
	return func(s *api.State) {
		for _, n := range numbers {
			come(s, n, api.Hand)
		}
	}
}

func TestBack(t *testing.T) {
	sc := table(t, "ox 0 table", "imp 1 table", "nest 1 table", "bear 0 hand", "bear 1 hand", "bear 0 deck").by(all(hurt(1, 3), shields(1, 2), shields(2, 1)))
	sc.wantDo(t, back(1), 1, hand(1))
	sc.wantDo(t, back(2), 1, hand(2))
	sc.wantDo(t, back(3), 1, hand(3))
	for owner, n := range []int{1, 2} {
		sc.by(hands(owner, 9)).wantDo(t, back(n), 1, hand(n))
		sc.by(hands(owner, 10)).wantDo(t, back(n), 1, grave(n)) // it broke not: no items
		sc.by(hands(1-owner, 10)).wantDo(t, back(n), 1, hand(n))
	}
	sc.wantBounded(t, back(1), nothing, hand(1))
}

func TestBackOfAToken(t *testing.T) {
	sc := table(t, "wolf 0 table", "charm 1 table", "bear 1 table").by(hurt(3, 2))
	sc.wantDo(t, back(1), 2, grave(1, 3))
	sc.wantDo(t, back(2), 2, grave(2, 3))
}

// A seized thing comes into its owner's hand; what stood goes with its thing.
func TestBackOfWhatIsSeized(t *testing.T) {
	sc := table(t, "imp 1 table", "thief 0 table")
	sc.wantDo(t, back(1), 1, hand(1))
	if f := sc.wantDo(t, back(2), 1, hand(2)).Features()[0]; f.Holder != 1 {
		t.Errorf("the imp is %+v", f)
	}
}

func marks(n int, to [4]int) func(*api.State) {
	return func(s *api.State) { s.Things[n-1].Marks = to }
}

func TestPut(t *testing.T) {
	sc := table(t, "ox 0 table", "nest 1 table").by(all(marks(1, [4]int{10, 5, 20, 30}), marks(2, [4]int{10, 20, 30, 40})))
	for n := 1; n <= 2; n++ {
		for m := api.Up; m <= api.Charge; m++ {
			before := sc.s.Things[n-1].Marks
			for _, count := range []int{1, 2, -1, -2, -before[m-1], 99 - before[m-1]} {
				to := before
				to[m-1] += count
				if n == 1 && 9+to[0]-to[1] <= 0 {
					sc.wantDo(t, put(n, count, m), 2, grave(1))
					continue
				}
				sc.wantDo(t, put(n, count, m), 1, marks(n, to))
			}
		}
	}
}

func TestPutIsBounded(t *testing.T) {
	sc := table(t, "nest 1 table").by(marks(1, [4]int{10, 20, 30, 40}))
	for m := api.Up; m <= api.Charge; m++ {
		before := sc.s.Things[0].Marks
		full, none := before, before
		full[m-1], none[m-1] = 99, 0
		for _, count := range []int{99, 100, 9999} {
			sc.wantDo(t, put(1, count, m), 1, marks(1, full))
			sc.wantDo(t, put(1, -count, m), 1, marks(1, none))
		}
	}
	sc.wantBounded(t, put(1, 1, api.Up), nothing, marks(1, [4]int{11, 20, 30, 40}))
}

// A mark that the book has not lies on a thing all the same.
func TestPutOfAMarkThatNobodyRegistered(t *testing.T) {
	sc := lay(t, shieldBook(t), "rock 0 table")
	sc.wantDo(t, put(1, 3, api.Charge), 1, marks(1, [4]int{0, 0, 0, 3}))
	sc.wantDo(t, put(1, 99, api.Down), 1, marks(1, [4]int{0, 99}))
}

func mana(who, count int) func(*api.State) {
	return func(s *api.State) { s.Mana[who] = count }
}

func TestGain(t *testing.T) {
	sc := table(t, "ox 0 table", "nest 1 table", "bear 1 table").by(func(s *api.State) { s.Mana, s.Most = [2]int{4, 6}, [2]int{1, 2} })
	for _, r := range []struct{ count, zero, one int }{
		{1, 5, 7}, {-1, 3, 5}, {4, 8, 10}, {5, 9, 10}, {6, 10, 10}, {7, 10, 10}, {9999, 10, 10}, {0, 4, 6},
		{-4, 0, 2}, {-5, 0, 1}, {-6, 0, 0}, {-7, 0, 0}, {-9999, 0, 0},
	} {
		sc.wantDo(t, gain(-1, r.count), 1, mana(0, r.zero))
		sc.wantDo(t, gain(1, r.count), 1, mana(0, r.zero))
		sc.wantDo(t, gain(-2, r.count), 1, mana(1, r.one))
		sc.wantDo(t, gain(2, r.count), 1, mana(1, r.one))
		sc.wantDo(t, gain(3, r.count), 1, mana(1, r.one))
	}
	seized := sc.with(t, "thief 0 table")
	seized.wantDo(t, gain(3, 1), 1, mana(0, 5))
	seized.wantDo(t, gain(2, 1), 1, mana(1, 7)) // thieves seize units alone
	table(t).wantBounded(t, gain(-2, 9), nothing, mana(1, 9))
}

// The settling.

// dead are units of which no health is left, of stamps that fall as their numbers rise.
func dead(t testing.TB) scene {
	t.Helper()
	return table(t, "imp 0 table", "ox 0 table", "imp 1 table", "imp 0 table").by(func(s *api.State) {
		for i := range s.Things {
			s.Things[i].Stamp = 4 - i
		}
		s.Stamp = 9
	}).by(all(hurt(1, 1), hurt(3, 2), hurt(4, 3)))
}

func TestSettleBreaksByStamp(t *testing.T) {
	sc := dead(t)
	want := all(grave(4), imps(4, 0), grave(3), imps(3, 1), grave(1), imps(1, 0))
	w := sc.world(t)
	w.Settle()
	sc.wantWorld(t, w, sc.by(want).s, 3)
	w.Settle()
	sc.wantWorld(t, w, sc.by(want).s, 3)
	sc.wantDo(t, gain(-1, 0), 4, want)
	// What is broken by the deed is broken ahead of them.
	sc.wantDo(t, breaking(1), 3, all(grave(1), imps(1, 0), grave(4), imps(4, 0), grave(3), imps(3, 1)))
}

// Just what has no health left breaks: not by power, not a relic, not by what lies on a relic.
func TestSettleOfWhatStands(t *testing.T) {
	sc := table(t, "ox 0 table", "nest 0 table", "wolf 1 table", "bear 0 hand", "bear 0 grave").by(all(hurt(1, 8), marks(2, [4]int{0, 99}), hurt(2, 9), marks(3, [4]int{0, 0, 9, 9})))
	w := sc.world(t)
	w.Settle()
	sc.wantWorld(t, w, sc.s, 0)
	w.Do(harm(1, 1))
	sc.wantWorld(t, w, sc.by(grave(1)).s, 2)
}

// Behind each break features are found anew: a lord's fall takes with it whom it raised, and a pit's coming is the end of many.
func TestSettleFindsFeaturesAnew(t *testing.T) {
	sc := table(t, "bear 0 table", "lord 0 table", "bear 0 table", "bear 1 table").by(all(hurt(1, 2), hurt(3, 2), hurt(4, 1)))
	w := sc.world(t)
	w.Settle()
	sc.wantWorld(t, w, sc.s, 0)
	sc.wantDo(t, breaking(2), 3, grave(2, 1, 3))
	sc.wantDo(t, harm(2, 1), 4, grave(2, 1, 3))
	sc.wantDo(t, back(2), 3, all(hand(2), grave(1, 3)))
	sc.wantDo(t, put(1, 1, api.Down), 2, grave(1))
	sc.wantDo(t, call(-2, 1, "pit"), 5, all(func(s *api.State) {
		s.Things = append(s.Things, api.Thing{Card: number(t, sc.b, "pit"), Owner: 1, Place: api.Table, Stamp: 5, Fresh: true})
		s.Stamp = 6
	}, grave(1, 2, 3, 4)))
}

// A break that is swapped leaves the unit, which is looked at again.
func TestSettleOfWhatIsSwapped(t *testing.T) {
	sc := table(t, "golem 0 table", "imp 0 table").by(all(hurt(1, 7), shields(1, 3), hurt(2, 1)))
	w := sc.world(t)
	w.Settle()
	sc.wantWorld(t, w, sc.by(all(grave(1), func(s *api.State) { item(s, 1, 2, 0) }, grave(2), imps(2, 0))).s, 5)
}

// Where no event is left nothing is settled, and what should break stands till one is.
func TestSettleIsBounded(t *testing.T) {
	sc := table(t, "lord 0 table", "bear 0 table", "bear 0 table").by(all(hurt(2, 2), hurt(3, 2)))
	sc.wantBounded(t, breaking(1), nothing, grave(1), grave(1, 2), grave(1, 2, 3))
	w := sc.world(t)
	spend(t, w, 255)
	w.Do(breaking(1))
	for range 2 {
		w.Settle()
		sc.wantWorld(t, w, sc.by(grave(1)).s, 256)
	}
	w.Do(gain(-1, 0))
	sc.wantWorld(t, w, sc.by(grave(1)).s, 256)
	w.Begin()
	w.Do(harm(-1, 0)) // makes no event
	sc.wantWorld(t, w, sc.by(grave(1)).s, 0)
	w.Settle()
	sc.wantWorld(t, w, sc.by(grave(1, 2, 3)).s, 2)
	// A unit with many Shields whose break is swapped again and again.
	much := table(t, "golem 0 table").by(all(hurt(1, 5), shields(1, 99)))
	w = much.world(t)
	w.Settle()
	much.wantWorld(t, w, much.by(all(grave(1), func(s *api.State) { item(s, 1, 2, 0) })).s, 100)
}

// shieldBook is a book in which a Shield adds one health.
func shieldBook(t testing.TB) *book.Book {
	t.Helper()
	b := book.New()
	for _, text := range []string{"rock earth unit 1 1/3", "golem earth unit 5 4/5 | rather instead self 1"} {
		c, _ := card.Parse(text)
		b.Card(c)
	}
	b.Mark(api.MarkInfo{Mark: api.Shield, Name: "shield", Health: 1})
	if e := b.Seal(); e != api.OK {
		t.Fatalf("Seal() = %d", e)
	}
	return b
}

// A Shield that holds up its unit: once it is gone, the unit breaks.
func TestSettleBehindAShieldIsGone(t *testing.T) {
	sc := lay(t, shieldBook(t), "rock 0 table", "golem 0 table").by(all(hurt(1, 4), shields(1, 2), hurt(2, 5), shields(2, 1)))
	w := sc.world(t)
	w.Settle()
	sc.wantWorld(t, w, sc.s, 0)
	sc.wantDo(t, harm(1, 1), 2, grave(1))
	sc.wantDo(t, put(1, -1, api.Shield), 2, grave(1))
	sc.wantDo(t, breaking(2), 2, grave(2)) // the break is swapped; the golem breaks by the settling
}
