package pile_test

import (
	"slices"
	"sync"
	"testing"

	"gambit/pile"
)

// Rule 4: what was handed in stays, and may be written over; each answer is new memory, and no two lists of it lie in one.

// asked is a call, and all lists of its answer.
type asked struct {
	name string
	call func(l []int) [][]int
}

func calls() []asked {
	draw := func(l []int) [][]int {
		_, rest, _ := pile.Draw(l)
		return [][]int{rest}
	}
	all := []asked{{"Draw", draw}}
	for _, state := range []uint64{0, 1, 2, 3} { // two numbers stay in their order, or do not
		all = append(all, asked{"Shuffle", func(l []int) [][]int {
			list, _ := pile.Shuffle(l, state)
			return [][]int{list}
		}})
	}
	for _, x := range []int{1, 2, 3, 12, 99} {
		all = append(all, asked{"Under", func(l []int) [][]int { return [][]int{pile.Under(l, x)} }})
		all = append(all, asked{"Without", func(l []int) [][]int {
			list, _ := pile.Without(l, x)
			return [][]int{list}
		}})
	}
	for n := range 13 {
		all = append(all, asked{"Cut", func(l []int) [][]int {
			one, two, _ := pile.Cut(l, n)
			return [][]int{one, two}
		}})
	}
	for _, c := range [][2]int{{1, 0}, {1, 1}, {1, 12}, {2, 1}, {2, 3}, {3, 4}, {3, 2}, {12, 1}, {64, 0}} {
		all = append(all, asked{"Deal", func(l []int) [][]int {
			hands, rest, _ := pile.Deal(l, c[0], c[1])
			return append(hands, rest)
		}})
	}
	return all
}

const spare = 6

// roomy is a list of so many numbers with spare room behind it, in which another number stands, and the whole room.
func roomy(count, behind int) (list, room []int) {
	room = append(rising(count), slices.Repeat([]int{behind}, spare)...)
	return room[:count], room
}

// copied is a copy of all lists.
func copied(all [][]int) [][]int {
	list := make([][]int, len(all))
	for i, l := range all {
		list[i] = slices.Clone(l)
	}
	return list
}

// writeOver writes a number into a list, its spare room too.
func writeOver(l []int, n int) {
	for i := range l[:cap(l)] {
		l[:cap(l)][i] = n
	}
}

// everyCall has each call with lists of several lengths, and what it answers where nobody writes over anything.
func everyCall(t *testing.T, ask func(t *testing.T, c asked, count int, want [][]int)) {
	for _, c := range calls() {
		for _, count := range []int{0, 1, 2, 3, 12, 13} {
			want := copied(c.call(rising(count)))
			if ask(t, c, count, want); t.Failed() {
				t.Fatalf("%s of %d", c.name, count)
			}
		}
	}
}

func TestWhatIsHandedInStays(t *testing.T) {
	everyCall(t, func(t *testing.T, c asked, count int, want [][]int) {
		list, room := roomy(count, 99)
		before := slices.Clone(room)
		if got := c.call(list); !sameHands(got, want) {
			t.Errorf("with spare room: %v, want %v", got, want)
		}
		if !slices.Equal(room, before) {
			t.Errorf("the room is %v, want %v", room, before)
		}
	})
}

func TestAnswerStaysWhenTheListIsWrittenOver(t *testing.T) {
	everyCall(t, func(t *testing.T, c asked, count int, want [][]int) {
		list, room := roomy(count, 0)
		got := c.call(list)
		writeOver(room, -7)
		if !sameHands(got, want) {
			t.Errorf("behind the list's writing over: %v, want %v", got, want)
		}
	})
}

func TestListStaysWhenTheAnswerIsWrittenOver(t *testing.T) {
	everyCall(t, func(t *testing.T, c asked, count int, want [][]int) {
		list, room := roomy(count, 0)
		before := slices.Clone(room)
		for _, l := range c.call(list) {
			writeOver(l, -7)
			_ = append(l, -7)
		}
		if !slices.Equal(room, before) {
			t.Errorf("the room is %v, want %v", room, before)
		}
		if again := c.call(list); !sameHands(again, want) {
			t.Errorf("asked again: %v, want %v", again, want)
		}
	})
}

func TestTwoAnswersShareNoMemory(t *testing.T) {
	everyCall(t, func(t *testing.T, c asked, count int, want [][]int) {
		list, _ := roomy(count, 0)
		one, two := c.call(list), c.call(list)
		for _, l := range one {
			writeOver(l, -7)
			_ = append(l, -7)
		}
		clear(one)
		if !sameHands(two, want) {
			t.Errorf("the other answer is %v, want %v", two, want)
		}
	})
}

func TestListsOfOneAnswerShareNoMemory(t *testing.T) {
	everyCall(t, func(t *testing.T, c asked, count int, want [][]int) {
		for i := range want {
			got := c.call(rising(count))
			writeOver(got[i], -7)
			_ = append(got[i], -7)
			for k := range got {
				if k != i && !slices.Equal(got[k], want[k]) {
					t.Errorf("the list %d is %v when the list %d is written over, want %v", k, got[k], i, want[k])
				}
			}
		}
	})
}

// What stood ahead in memory, the list's spare room among it, is not handed out as an answer's.
func TestSpareRoomOfAnswersIsEmpty(t *testing.T) {
	everyCall(t, func(t *testing.T, c asked, count int, _ [][]int) {
		list, _ := roomy(count, 99)
		for i, l := range c.call(list) {
			for _, n := range l[len(l):cap(l)] {
				if n != 0 {
					t.Errorf("the list %d has %v in its spare room", i, l[len(l):cap(l)])
				}
			}
		}
	})
}

// Rule 8: many may ask of one list at the same time.
func TestManyGoroutinesAskOfOneList(t *testing.T) {
	list, room := roomy(12, 99)
	before := slices.Clone(room)
	var all sync.WaitGroup
	for _, c := range calls() {
		want := copied(c.call(rising(12)))
		for range 4 {
			all.Go(func() {
				if got := c.call(list); !sameHands(got, want) {
					t.Errorf("%s = %v, want %v", c.name, got, want)
				}
			})
		}
	}
	all.Wait()
	if !slices.Equal(room, before) {
		t.Errorf("the room is %v, want %v", room, before)
	}
}
