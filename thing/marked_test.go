package thing_test

import (
	"math"
	"testing"

	"gambit/api"
	"gambit/book"
	"gambit/pile"
	"gambit/thing"
	"gambit/whole"
)

// P18.2

// fourMarks has each mark once, no two of which add the same, in an order that is not that of their numbers.
func fourMarks() []api.MarkInfo {
	return []api.MarkInfo{
		{Mark: api.Shield, Name: "shield", Power: 9, Health: -9},
		{Mark: api.Up, Name: "up", Power: 2, Health: 3},
		{Mark: api.Charge, Name: "charge", Power: -4, Health: 0},
		{Mark: api.Down, Name: "down", Power: -5, Health: 7},
	}
}

// some are those of marks whose bit is set.
func some(marks []api.MarkInfo, bits int) []api.MarkInfo {
	var list []api.MarkInfo
	for _, m := range marks {
		if bits>>(m.Mark-1)&1 == 1 {
			list = append(list, m)
		}
	}
	return list
}

func withMarks(t testing.TB, marks ...api.MarkInfo) *book.Book {
	t.Helper()
	return seal(t, mark(t, book.New(), marks...))
}

// force adds one mark, and no other than it.
func force(t testing.TB, m api.Mark, power, health int) *book.Book {
	t.Helper()
	return withMarks(t, api.MarkInfo{Mark: m, Name: "m", Power: power, Health: health})
}

// added is the test's own reckoning: each mark that lies there is added by itself, modulo 2^64.
func added(infos []api.MarkInfo, f api.Feature, marks [4]int) api.Feature {
	power, health := uint64(f.Power), uint64(f.Health)
	for _, m := range infos {
		for range marks[m.Mark-1] {
			power += uint64(m.Power)
			health += uint64(m.Health)
		}
	}
	if power >= 1<<63 {
		power = 0
	}
	f.Power, f.Health = int(power), int(health)
	return f
}

func wantMarked(t *testing.T, b *book.Book, f api.Feature, marks [4]int, want api.Feature, wantErr api.Errno) {
	t.Helper()
	if got, err := thing.Marked(b, f, marks); got != want || err != wantErr {
		t.Errorf("Marked(%+v, %v) = %+v, %d, want %+v, %d", f, marks, got, err, want, wantErr)
	}
}

func wantForce(t *testing.T, b *book.Book, power, health int, marks [4]int, wantPower, wantHealth int) {
	t.Helper()
	wantMarked(t, b, api.Feature{Power: power, Health: health}, marks, api.Feature{Power: wantPower, Health: wantHealth}, api.OK)
}

// features are some that may be, and some that no thing has.
func features() []api.Feature {
	return []api.Feature{
		{},
		{Holder: 1, Suit: api.Earth, Traits: 2, Power: 2, Health: 3},
		{Holder: 1, Suit: api.Gold, Traits: 255, Power: 99, Health: 99},
		{Holder: -7, Suit: 200, Traits: math.MaxUint16, Power: -5, Health: -5},
		{Holder: math.MinInt, Suit: 7, Traits: 256, Power: math.MaxInt, Health: math.MaxInt},
		{Holder: math.MaxInt, Power: math.MinInt, Health: math.MinInt},
		{Power: math.MaxInt - 1, Health: math.MinInt + 1},
		{Power: math.MinInt + 1, Health: math.MaxInt - 1},
	}
}

// wrongMarks has each number that is none of marks, at each place, alone and among others.
func wrongMarks() [][4]int {
	var list [][4]int
	for _, wrong := range []int{-1, -2, -99, -100, 100, 101, 1 << 8, 1 << 32, 1<<32 + 1, -1 << 32, math.MinInt, math.MaxInt} {
		for place := range 4 {
			for _, fill := range []int{0, 1, 99} {
				marks := [4]int{fill, fill, fill, fill}
				marks[place] = wrong
				list = append(list, marks)
			}
		}
		list = append(list, [4]int{wrong, wrong, wrong, wrong})
	}
	return list
}

func TestMarkedOfNoBook(t *testing.T) {
	for _, b := range none() {
		for _, f := range features() {
			for _, marks := range append(wrongMarks(), [4]int{}, [4]int{1, 2, 3, 4}, [4]int{99, 99, 99, 99}) {
				wantMarked(t, b, f, marks, api.Feature{}, api.ErrNil)
			}
		}
	}
}

// A number that is none is refused whether or not the book has that mark.
func TestMarkedOfWrongNumbers(t *testing.T) {
	for bits := range 16 {
		b := withMarks(t, some(fourMarks(), bits)...)
		for _, f := range features() {
			for _, marks := range wrongMarks() {
				wantMarked(t, b, f, marks, api.Feature{}, api.ErrArg)
			}
		}
	}
}

func TestMarkedOfTheBounds(t *testing.T) {
	for place := range 4 {
		b := force(t, api.Mark(place+1), 1, -1)
		for count := -3; count <= 103; count++ {
			var marks [4]int
			marks[place] = count
			if count < 0 || count > 99 {
				wantMarked(t, b, api.Feature{Power: 5, Health: 5}, marks, api.Feature{}, api.ErrArg)
				continue
			}
			wantForce(t, b, 5, 5, marks, 5+count, 5-count)
		}
	}
}

// Each mark by itself in the book, each number of it: no other place counts.
func TestMarkedOfEachMark(t *testing.T) {
	for place := range 4 {
		for one := -9; one <= 9; one++ {
			b := force(t, api.Mark(place+1), one, -one)
			for count := range 100 {
				marks := [4]int{99, 98, 97, 96}
				marks[place] = count
				wantForce(t, b, 1000, 1000, marks, 1000+count*one, 1000-count*one)
			}
		}
	}
}

// All books that have all, some or none of the four, with marks at 0, 1, in the midst and 99.
func TestMarkedOfAllBooks(t *testing.T) {
	counts := []int{0, 1, 7, 98, 99}
	for bits := range 16 {
		infos := some(fourMarks(), bits)
		b := withMarks(t, infos...)
		for _, f := range features() {
			for all := range 5 * 5 * 5 * 5 {
				marks := [4]int{counts[all%5], counts[all/5%5], counts[all/25%5], counts[all/125]}
				wantMarked(t, b, f, marks, added(infos, f, marks), api.OK)
			}
		}
	}
}

// Written out: all four together, and what each adds.
func TestMarkedWrittenOut(t *testing.T) {
	b := withMarks(t, fourMarks()...)
	wantForce(t, b, 100, 100, [4]int{1, 0, 0, 0}, 102, 103)
	wantForce(t, b, 100, 100, [4]int{0, 1, 0, 0}, 95, 107)
	wantForce(t, b, 100, 100, [4]int{0, 0, 1, 0}, 109, 91)
	wantForce(t, b, 100, 100, [4]int{0, 0, 0, 1}, 96, 100)
	wantForce(t, b, 100, 100, [4]int{1, 1, 1, 1}, 102, 101)
	wantForce(t, b, 100, 100, [4]int{4, 3, 2, 1}, 107, 115)
	wantForce(t, b, 100, 100, [4]int{99, 99, 99, 99}, 298, 199)
}

func TestMarkedOfPowerAboutNought(t *testing.T) {
	b := force(t, api.Down, -1, -1)
	for power := -12; power <= 12; power++ {
		for count := range 25 {
			want := power - count
			if want < 0 {
				want = 0
			}
			wantForce(t, b, power, power, [4]int{0, count, 0, 0}, want, power-count)
		}
	}
}

// A power that is below 0 at first, or behind some of the marks, is 0 at the end alone.
func TestMarkedOfPowerBelowNoughtOnTheWay(t *testing.T) {
	up := force(t, api.Up, 1, 1)
	wantForce(t, up, -5, 0, [4]int{7, 0, 0, 0}, 2, 7)
	wantForce(t, up, -5, 0, [4]int{5, 0, 0, 0}, 0, 5)
	wantForce(t, up, -5, 0, [4]int{3, 0, 0, 0}, 0, 3)
	for first := range 4 {
		for last := range 4 {
			if first == last {
				continue
			}
			b := withMarks(t, api.MarkInfo{Mark: api.Mark(first + 1), Name: "less", Power: -9}, api.MarkInfo{Mark: api.Mark(last + 1), Name: "more", Power: 9})
			for more := range 100 {
				var marks [4]int
				marks[first], marks[last] = 99, more
				wantForce(t, b, 900, 1, marks, 9+9*more, 1)
				wantForce(t, b, 18, 1, marks, max(0, 18+9*(more-99)), 1)
			}
		}
	}
}

// Health is never lifted to 0.
func TestMarkedOfHealthBelowNought(t *testing.T) {
	b := force(t, api.Charge, 0, -9)
	wantForce(t, b, 1, 5, [4]int{0, 0, 0, 1}, 1, -4)
	wantForce(t, b, 1, -5, [4]int{0, 0, 0, 99}, 1, -896)
	wantForce(t, b, -1, -5, [4]int{}, 0, -5)
	wantForce(t, b, 0, math.MinInt, [4]int{}, 0, math.MinInt)
}

func TestMarkedWithoutMarks(t *testing.T) {
	for bits := range 16 {
		b := withMarks(t, some(fourMarks(), bits)...)
		for _, f := range features() {
			want := f
			if want.Power < 0 {
				want.Power = 0
			}
			wantMarked(t, b, f, [4]int{}, want, api.OK)
		}
	}
}

func TestMarkedGoesRound(t *testing.T) {
	up, down := force(t, api.Up, 1, 1), force(t, api.Down, -1, -1)
	one, two := [4]int{1, 0, 0, 0}, [4]int{0, 2, 0, 0}
	wantForce(t, up, math.MaxInt-1, math.MaxInt-1, one, math.MaxInt, math.MaxInt)
	wantForce(t, up, math.MaxInt, math.MaxInt, one, 0, math.MinInt) // the power is below 0 then
	wantForce(t, down, math.MinInt, math.MinInt, two, math.MaxInt-1, math.MaxInt-1)
	wantForce(t, down, math.MinInt+2, math.MinInt+2, two, 0, math.MinInt)
	both := withMarks(t, api.MarkInfo{Mark: api.Up, Name: "up", Power: 9, Health: 9}, api.MarkInfo{Mark: api.Down, Name: "down", Power: -9, Health: -9})
	wantForce(t, both, math.MaxInt, math.MaxInt, [4]int{99, 99, 0, 0}, math.MaxInt, math.MaxInt)
	wantForce(t, both, math.MaxInt, math.MinInt, [4]int{99, 99, 0, 0}, math.MaxInt, math.MinInt)
	wantForce(t, both, math.MaxInt, math.MinInt, [4]int{98, 99, 0, 0}, math.MaxInt-9, math.MaxInt-8)
}

// Open or sealed, with cards or without: the marks count, nothing else of the book does.
func TestMarkedOfOpenBooks(t *testing.T) {
	f := api.Feature{Holder: 1, Suit: api.Fire, Traits: 9, Power: 40, Health: 1}
	b := open(t, pair()...)
	wantMarked(t, b, f, [4]int{1, 1, 1, 1}, f, api.OK)
	wantMarked(t, b, f, [4]int{1, 1, 1, 100}, api.Feature{}, api.ErrArg)
	for i, m := range fourMarks() {
		mark(t, b, m)
		wantMarked(t, b, f, [4]int{4, 3, 2, 1}, added(fourMarks()[:i+1], f, [4]int{4, 3, 2, 1}), api.OK)
	}
	seal(t, b)
	wantMarked(t, b, f, [4]int{4, 3, 2, 1}, added(fourMarks(), f, [4]int{4, 3, 2, 1}), api.OK)
}

// The chapter's examples.
func TestMarkedOfExamples(t *testing.T) {
	b := example(t)
	f, _ := thing.Printed(b, api.Thing{Card: 2, Owner: 1})
	rock := func(power, health int) api.Feature {
		return api.Feature{Holder: 1, Suit: api.Earth, Traits: 2, Power: power, Health: health}
	}
	wantMarked(t, b, f, [4]int{2, 0, 0, 0}, rock(4, 5), api.OK)
	wantMarked(t, b, f, [4]int{0, 3, 0, 0}, rock(0, 0), api.OK)
	wantMarked(t, b, f, [4]int{100, 0, 0, 0}, api.Feature{}, api.ErrArg)
}

func TestMarkedOfTheBookOfTheSixSuits(t *testing.T) {
	b := whole.Book()
	wantForce(t, b, 4, 5, [4]int{3, 0, 0, 0}, 7, 8)
	wantForce(t, b, 4, 5, [4]int{0, 6, 0, 0}, 0, -1)
	wantForce(t, b, 4, 5, [4]int{0, 0, 99, 99}, 4, 5)
	wantForce(t, b, 4, 5, [4]int{3, 2, 1, 1}, 5, 6)
}

// chance gives a number from least to most, and the generator's state then.
func chance(least, most int, state *uint64) int {
	n, next := pile.Next(*state)
	*state = next
	return least + int(n%uint64(most-least+1))
}

// chanceMarks are marks of a book: each of the four, or not, by chance.
func chanceMarks(state *uint64) []api.MarkInfo {
	var infos []api.MarkInfo
	for m := api.Up; m <= api.Charge; m++ {
		if chance(0, 3, state) > 0 {
			infos = append(infos, api.MarkInfo{Mark: m, Name: string(rune('a' + m)), Power: chance(-9, 9, state), Health: chance(-9, 9, state)})
		}
	}
	return infos
}

func TestMarkedOfManyMarks(t *testing.T) {
	state := uint64(18)
	for range 300 {
		infos := chanceMarks(&state)
		b := withMarks(t, infos...)
		for range 50 {
			f := api.Feature{Holder: chance(0, 1, &state), Power: chance(-500, 500, &state), Health: chance(-500, 500, &state)}
			var marks [4]int
			for i := range marks {
				marks[i] = chance(0, 99, &state)
			}
			wantMarked(t, b, f, marks, added(infos, f, marks), api.OK)
		}
	}
}
