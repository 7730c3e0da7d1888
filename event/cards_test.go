package event_test

import (
	"testing"

	"gambit/api"
)

// P22.3 and P22.4: Draw, Drop and Call.

func nothings(who, count int) func(*api.State) {
	return func(s *api.State) { s.Nothing[who] = count }
}

func TestDraw(t *testing.T) {
	sc := table(t, "bear 0 deck", "bear 1 deck", "imp 0 deck", "zap 1 deck", "ox 0 deck", "nest 0 hand", "nest 1 hand").by(func(s *api.State) {
		s.Decks = [2][]int{{5, 1, 3}, {4, 2}}
	})
	sc.wantDo(t, draw(-1, 1), 1, hand(5))
	sc.wantDo(t, draw(-1, 2), 2, hand(5, 1))
	sc.wantDo(t, draw(-1, 3), 3, hand(5, 1, 3))
	sc.wantDo(t, draw(-2, 1), 1, hand(4))
	sc.wantDo(t, draw(-2, 2), 2, hand(4, 2))
	sc.wantBounded(t, draw(-1, 3), nothing, hand(5), hand(5, 1), hand(5, 1, 3))
}

func TestDrawIntoAFullHand(t *testing.T) {
	sc := table(t, "bear 0 deck", "bear 0 deck", "bear 1 deck")
	sc.by(hands(0, 9)).wantDo(t, draw(-1, 2), 2, all(hand(1), grave(2)))
	sc.by(hands(0, 10)).wantDo(t, draw(-1, 2), 2, grave(1, 2))
	sc.by(hands(0, 10)).wantDo(t, draw(-2, 1), 1, hand(3))
}

func TestDrawOfWhoHolds(t *testing.T) {
	sc := table(t, "ox 0 table", "ox 1 table", "nest 1 table", "bear 0 deck", "bear 1 deck")
	sc.wantDo(t, draw(1, 1), 1, hand(4))
	sc.wantDo(t, draw(2, 1), 1, hand(5))
	sc.wantDo(t, draw(3, 1), 1, hand(5))
	sc.with(t, "thief 0 table").wantDo(t, draw(2, 1), 1, hand(4))
	sc.with(t, "thief 0 table").wantDo(t, draw(3, 1), 1, hand(5))
}

// Who held the thing when the deed began it is for all of its events, whoever holds it by then, and wherever it is.
func TestWhoHoldsIsFoundOnce(t *testing.T) {
	sc := table(t, "ox 1 table", "rogue 0 table", "bear 0 deck", "bear 0 deck", "bear 1 deck", "bear 1 hand", "bear 0 hand", "bear 0 hand").by(hurt(2, 1))
	sc.wantDo(t, draw(1, 2), 3, all(hand(3), grave(2), hand(4)))
	sc.wantDo(t, drop(1, 2), 3, grave(8, 2, 7))
	sc.wantDo(t, call(1, 2, "nest"), 3, all(called(sc, 0, "nest", "nest"), grave(2)))
	sc.by(hurt(1, 9)).wantDo(t, draw(1, 2), 4, all(hand(3), grave(1, 2), hand(4)))
}

// From an empty deck Nothing grows by one each time, and that is the harm.
func TestDrawFromNothing(t *testing.T) {
	sc := table(t, "bear 0 deck", "ox 0 table").by(nothings(1, 4))
	sc.wantDo(t, draw(-1, 3), 5, all(hand(1), nothings(0, 2), life(0, -3)))
	sc.wantDo(t, draw(-2, 1), 2, all(nothings(1, 5), life(1, -5)))
	sc.wantDo(t, draw(-2, 3), 6, all(nothings(1, 7), life(1, -18)))
	sc.wantBounded(t, draw(-2, 2),
		nothing,
		nothings(1, 5),
		all(nothings(1, 5), life(1, -5)),
		all(nothings(1, 6), life(1, -5)),
		all(nothings(1, 6), life(1, -11)),
	)
	sc.wantDo(t, draw(-2, 9999), 256, all(nothings(1, 132), life(1, -(5+132)*64)))
}

func TestDrawFromNothingFarOff(t *testing.T) {
	for _, before := range []int{9997, 9998, 9999, 10000, 900000000} {
		sc := table(t).by(nothings(0, before))
		sc.wantDo(t, draw(-1, 1), 2, all(nothings(0, before+1), life(0, -min(before+1, 9999))))
	}
}

// The harm of Nothing is an event with swaps.
func TestHarmOfNothingIsSwapped(t *testing.T) {
	table(t, "mirror 0 table").by(nothings(0, 4)).wantDo(t, draw(-1, 1), 2, all(nothings(0, 5), life(1, -5)))
	table(t, "curse 1 table").by(nothings(0, 4)).wantDo(t, draw(-1, 1), 2, all(nothings(0, 5), life(0, -10)))
	table(t, "curse 1 table").by(nothings(0, 9999)).wantDo(t, draw(-1, 1), 2, all(nothings(0, 10000), life(0, -9999)))
	shield := table(t, "shell 0 table")
	shield.wantDo(t, draw(-1, 2), 4, all(nothings(0, 2), life(0, -1)))
	shield.wantDo(t, draw(-2, 2), 4, all(nothings(1, 2), life(1, -3)))
}

// The harm of Nothing is ahead of the settling: a fiend that is about to break doubles it still.
func TestHarmOfNothingIsAheadOfTheSettling(t *testing.T) {
	sc := table(t, "fiend 0 table").by(hurt(1, 1))
	sc.wantDo(t, draw(-1, 1), 3, all(grave(1), nothings(0, 1), life(0, -2)))
	sc.wantDo(t, draw(-1, 2), 5, all(grave(1), nothings(0, 2), life(0, -4)))
}

// Each card is drawn and settled behind, ahead of the next one.
func TestDrawIsSettledCardByCard(t *testing.T) {
	sc := table(t, "fiend 0 table", "bear 0 deck").by(hurt(1, 1))
	sc.wantDo(t, draw(-1, 2), 4, all(hand(2), grave(1), nothings(0, 1), life(0, -1)))
}

func TestDrawIsSwapped(t *testing.T) {
	sc := table(t, "well 0 table", "bear 0 deck", "bear 1 deck", "bear 1 table").by(hurt(4, 2))
	sc.wantDo(t, draw(-1, 1), 2, all(life(0, 2), grave(4)))
	sc.wantDo(t, draw(-1, 3), 4, all(life(0, 6), grave(4)))
	sc.wantDo(t, draw(-1, 6), 7, all(life(0, 10), grave(4)))
	sc.wantDo(t, draw(-2, 1), 2, all(hand(3), grave(4)))
	for n := 28; n <= 30; n++ {
		sc.by(func(s *api.State) { s.Life[0] = n }).wantDo(t, draw(-1, 1), 2, func(s *api.State) { s.Life[0] = 30; come(s, 4, api.Grave) })
	}
	// Nor does an empty deck count then.
	sc = table(t, "well 0 table")
	sc.wantDo(t, draw(-1, 1), 1, life(0, 2))
	sc.wantBounded(t, draw(-1, 2), nothing, life(0, 2), life(0, 4))
}

func TestDrop(t *testing.T) {
	sc := table(t, "bear 0 hand", "imp 1 hand", "zap 0 hand", "wolf 0 hand", "ox 1 table", "ox 0 table", "nest 1 table").by(func(s *api.State) { s.Hands[0] = []int{4, 1, 3} })
	sc.wantDo(t, drop(-1, 1), 1, grave(3))
	sc.wantDo(t, drop(-1, 2), 2, grave(3, 1))
	sc.wantDo(t, drop(-1, 5), 5, grave(3, 1, 4))
	sc.wantDo(t, drop(-2, 1), 1, grave(2)) // no items: it was not on the table
	sc.wantDo(t, drop(5, 1), 1, grave(2))
	sc.wantDo(t, drop(6, 1), 1, grave(3))
	sc.wantDo(t, drop(7, 3), 3, grave(2))
	sc.with(t, "thief 0 table").wantDo(t, drop(5, 1), 1, grave(3))
	sc.wantDo(t, drop(-1, 9999), 256, grave(3, 1, 4))
	sc.wantBounded(t, drop(-1, 2), nothing, grave(3), grave(3, 1))
}

// called has new things on the table behind the others, of an owner, with the next stamps.
func called(sc scene, owner int, names ...string) func(*api.State) {
	return func(s *api.State) {
		for _, name := range names {
			n, _ := sc.b.Find(name)
			s.Things = append(s.Things, api.Thing{Card: n, Owner: owner, Place: api.Table, Stamp: s.Stamp, Fresh: true})
			s.Stamp++
		}
	}
}

// items lays a part's items on the stack, told by thing, part and holder.
func items(l ...[3]int) func(*api.State) {
	return func(s *api.State) {
		for _, i := range l {
			item(s, i[0], i[1], i[2])
		}
	}
}

func TestCall(t *testing.T) {
	sc := table(t, "ox 0 table", "bear 1 hand", "nest 1 table").by(func(s *api.State) { s.Stamp = 77 })
	for owner, on := range []int{-1, -2} {
		sc.wantDo(t, call(on, 1, "ox"), 1, called(sc, owner, "ox"))
		sc.wantDo(t, call(on, 3, "nest"), 3, called(sc, owner, "nest", "nest", "nest"))
		sc.wantDo(t, call(on, 1, "charm"), 1, all(called(sc, owner, "charm"), items([3]int{4, 1, owner})))
	}
	// The Played parts alone, the last one first: so the first one is on top.
	sc.wantDo(t, call(-2, 2, "wolf"), 2, all(called(sc, 1, "wolf", "wolf"), items([3]int{4, 3, 1}, [3]int{4, 1, 1}, [3]int{5, 3, 1}, [3]int{5, 1, 1})))
	sc.wantDo(t, call(1, 1, "ox"), 1, called(sc, 0, "ox"))
	sc.wantDo(t, call(3, 1, "ox"), 1, called(sc, 1, "ox"))
	sc.wantBounded(t, call(-1, 2, "ox"), nothing, called(sc, 0, "ox"), called(sc, 0, "ox", "ox"))
}

// A new thing is owned by who holds the thing that it is called of.
func TestCallOfWhatIsSeized(t *testing.T) {
	sc := table(t, "ox 1 table", "thief 0 table")
	sc.wantDo(t, call(1, 1, "ox"), 1, called(sc, 0, "ox"))
	sc.wantDo(t, call(-2, 1, "wolf"), 1, all(called(sc, 1, "wolf"), items([3]int{3, 3, 1}, [3]int{3, 1, 1}))) // though it is seized at once
}

// Where there is no room the event is counted all the same, and settled behind.
func TestCallToAFullTable(t *testing.T) {
	sc := table(t, "nest 0 table", "bear 0 table", "nest 1 table").by(func(s *api.State) { s.Things[1].Hurt = 1 })
	for owner, on := range []int{-1, -2} {
		room := 8 - []int{2, 1}[owner]
		for count := room - 1; count <= room+2; count++ {
			made := make([]string, min(count, room))
			for i := range made {
				made[i] = "nest"
			}
			sc.wantDo(t, call(on, count, "nest"), count, called(sc, owner, made...))
		}
	}
	seven := table(t, "nest 0 table", "nest 0 table", "nest 0 table", "nest 0 table", "nest 0 table", "nest 0 table", "nest 0 table")
	seven.wantDo(t, call(-1, 1, "wolf"), 1, all(called(seven, 0, "wolf"), items([3]int{8, 3, 0}, [3]int{8, 1, 0})))
	eight := seven.with(t, "bear 0 table").by(hurt(8, 2))
	// The bear breaks behind the first event: so the second one finds room.
	eight.wantDo(t, call(-1, 1, "wolf"), 2, grave(8))
	eight.wantDo(t, call(-1, 2, "wolf"), 3, all(grave(8), called(eight, 0, "wolf"), items([3]int{9, 3, 0}, [3]int{9, 1, 0})))
	eight.wantDo(t, call(-2, 1, "ox"), 2, all(grave(8), called(eight, 1, "ox")))
}

// Who owns, not who holds, fills the table.
func TestCallToATableOfSeizedThings(t *testing.T) {
	sc := table(t, "thief 0 table", "ox 1 table", "ox 1 table", "ox 1 table", "ox 1 table", "ox 1 table", "ox 1 table", "ox 1 table", "ox 1 table")
	sc.wantDo(t, call(-1, 1, "ox"), 1, called(sc, 0, "ox"))
	sc.wantDo(t, call(-2, 1, "ox"), 1, nothing)
	sc.wantDo(t, call(2, 1, "ox"), 1, called(sc, 0, "ox"))
}

func TestCallOf2048Things(t *testing.T) {
	for _, count := range []int{2046, 2047, 2048} {
		sc := table(t).by(func(s *api.State) { growTo(s, count) })
		sc.wantDo(t, call(-1, 1, "wolf"), 1, func(s *api.State) {
			if count < 2048 {
				all(called(sc, 0, "wolf"), items([3]int{count + 1, 3, 0}, [3]int{count + 1, 1, 0}))(s)
			}
		})
		sc.wantDo(t, call(-1, 3, "nest"), 3, called(sc, 0, []string{"nest", "nest", "nest"}[:min(3, 2048-count)]...))
	}
}

// The parts of what is called are put behind the settling, also if it broke: its own Broken ones are below.
func TestCallOfWhatBreaksAtOnce(t *testing.T) {
	sc := table(t, "imp 1 table", "pit 0 table").by(marks(1, [4]int{1}))
	sc.wantDo(t, call(-1, 1, "moth"), 2, all(called(sc, 0, "moth"), grave(3), items([3]int{3, 2, 0}, [3]int{3, 3, 0}, [3]int{3, 1, 0})))
	// Others that break by its coming are below too.
	sc = table(t, "imp 1 table", "imp 0 table").by(marks(1, [4]int{1}))
	sc.wantDo(t, call(-2, 1, "doom"), 2, all(called(sc, 1, "doom"), grave(2), imps(2, 0), items([3]int{3, 2, 1})))
	// Where no event is left it does not break, and its parts are put all the same.
	sc = table(t, "pit 1 table")
	sc.wantBounded(t, call(-1, 1, "moth"),
		nothing,
		all(called(sc, 0, "moth"), items([3]int{2, 3, 0}, [3]int{2, 1, 0})),
		all(called(sc, 0, "moth"), grave(2), items([3]int{2, 2, 0}, [3]int{2, 3, 0}, [3]int{2, 1, 0})),
	)
}

// Mute or not, what is called has its Played parts put; its Broken ones, as all of what is Mute, not.
func TestCallOfAMute(t *testing.T) {
	sc := table(t, "hush 1 table")
	sc.wantDo(t, call(-1, 1, "wolf"), 1, all(called(sc, 0, "wolf"), items([3]int{2, 3, 0}, [3]int{2, 1, 0})))
	sc = table(t, "hush 1 table", "pit 1 table")
	sc.wantDo(t, call(-1, 1, "moth"), 2, all(called(sc, 0, "moth"), grave(3), items([3]int{3, 3, 0}, [3]int{3, 1, 0})))
}

func TestCallOnAFullStack(t *testing.T) {
	sc := table(t, "wolf 0 table")
	sc.by(stackOf(22)).wantDo(t, call(-1, 1, "wolf"), 1, all(called(sc, 0, "wolf"), items([3]int{2, 3, 0}, [3]int{2, 1, 0})))
	sc.by(stackOf(23)).wantDo(t, call(-1, 1, "wolf"), 1, all(called(sc, 0, "wolf"), items([3]int{2, 3, 0})))
	sc.by(stackOf(24)).wantDo(t, call(-1, 1, "wolf"), 1, called(sc, 0, "wolf"))
}
