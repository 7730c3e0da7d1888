package swap_test

import (
	"fmt"
	"math"
	"testing"

	"gambit/api"
)

// P21.2

// shelf has cards with swaps at several places, among other parts, and cards without any.
func shelf() []string {
	return []string{
		"four void relic 1 | rather twice all | rather less you 99 | rather turned rest | rather instead foe 3",
		"mixed air unit 1 1/1 | always raise all 1 | rather twice with mute | broken draw you 1 | rather instead dyed 2 gold",
		"plain earth unit 1 1/1",
		"busy fire unit 1 1/1 | played draw you 1 | broken draw you 1 | begun draw you 1 | always seize theirs",
		"last gold relic 1 | begun draw you 1 | always dye all gold | always grant all mute | rather less self 1",
		"zap fire spell 1 | played harm it 3",
		"quiet void unit 1 1/1 +mute | rather twice all",
	}
}

func TestListByStampThenPlace(t *testing.T) {
	b := sealed(t, shelf()...)
	sc := lay(t, b, "last 0 9 0", "mixed 1 2 0", "four 0 5 0", "plain 1 1 0", "busy 0 3 0", "mixed 0 8 0")
	sc.wantList(t, "2.1 2.3 3.0 3.1 3.2 3.3 6.1 6.3 1.3")
	sc.things[0].Stamp, sc.things[2].Stamp = 5, 9
	sc.wantList(t, "2.1 2.3 1.3 6.1 6.3 3.0 3.1 3.2 3.3")
	sc.things[1].Stamp = math.MaxInt
	sc.wantList(t, "1.3 6.1 6.3 3.0 3.1 3.2 3.3 2.1 2.3")
}

func TestListWithoutSwaps(t *testing.T) {
	b := sealed(t, shelf()...)
	scene{b: b}.wantList(t, "")
	lay(t, b, "plain 0 1 0", "busy 1 2 0").wantList(t, "")
}

// What lies off the table has no swaps there, and stamps off the table put nothing into order.
func TestListOffTheTable(t *testing.T) {
	b := sealed(t, shelf()...)
	sc := scene{b: b}.off(t, "four").off(t, "mixed").off(t, "zap")
	sc.wantList(t, "")
	for i := range sc.things {
		sc.things[i].Stamp = 20 - i
	}
	sc.wantList(t, "")
	sc = sc.with(t, "last", api.Thing{Place: api.Table, Stamp: 30}).with(t, "mixed", api.Thing{Place: api.Table, Stamp: 7})
	sc.wantList(t, "14.1 14.3 13.3")
}

// Mute is asked of the features, not of what is printed; no other trait counts.
func TestListOfMuteThings(t *testing.T) {
	b := sealed(t, shelf()...)
	sc := lay(t, b, "quiet 0 1 0", "mixed 1 2 0", "last 0 3 0")
	sc.wantList(t, "2.1 2.3 3.3")
	sc.fs[0].Traits = 0
	sc.wantList(t, "1.0 2.1 2.3 3.3")
	for bits := range api.Traits(256) {
		sc.fs[1].Traits = bits
		if bits&32 != 0 {
			sc.wantList(t, "1.0 3.3")
		} else {
			sc.wantList(t, "1.0 2.1 2.3 3.3")
		}
	}
	for i := range sc.fs {
		sc.fs[i].Traits = set(api.Mute)
	}
	sc.wantList(t, "")
}

// Who holds or owns a thing, and all else of it, counts for nothing in List.
func TestListOfAnyHolder(t *testing.T) {
	sc := lay(t, sealed(t, shelf()...), "four 0 4 0", "mixed 1 2 3")
	for _, n := range []int{-9, 0, 1, 5, math.MaxInt} {
		for who := range 2 {
			sc.things[0].Owner, sc.fs[0].Holder, sc.fs[1].Holder = who, 1-who, who
			sc.things[1].Hurt, sc.things[1].Done, sc.things[1].Marks[2], sc.things[1].Fresh = n, n, n, who == 0
			sc.fs[1].Suit, sc.fs[1].Power, sc.fs[1].Health = 99, n, n
			sc.wantList(t, "2.1 2.3 1.0 1.1 1.2 1.3")
		}
	}
}

// Sixteen things with four swaps each, in an order of stamps that is not that of their numbers.
func TestListOfTheFullTable(t *testing.T) {
	b := sealed(t, shelf()...)
	var table []string
	var rising [16]string
	for i := range 16 {
		stamp := 1 + (i*5+3)%16
		table = append(table, fmt.Sprint("four 0 ", stamp, " 0"))
		n := i + 1
		rising[stamp-1] = fmt.Sprintf("%d.0 %d.1 %d.2 %d.3 ", n, n, n, n)
	}
	var want string
	for _, four := range rising {
		want += four
	}
	lay(t, b, table...).wantList(t, want)
}
