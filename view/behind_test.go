package view_test

import (
	"slices"
	"testing"

	"gambit/api"
	"gambit/book"
	"gambit/view"
	"gambit/whole"
)

// P20.2

// tower is a scene with an effect of each layer, each of which is about a unit for what the layer below made of it. The stamps go the other way than the layers.
func tower(t testing.TB) scene {
	t.Helper()
	b := sealed(t,
		"horn air relic 1 +lone | always raise dyed -9 gold",
		"flat air relic 1 | always base with 4 fast",
		"drum fire relic 1 | always grant dyed gold fast",
		"brush water relic 1 | always dye yours gold",
		"lord void unit 1 1/1 | always seize with guard",
		"bear earth unit 1 2/3 +guard",
		"calf earth unit 1 1/2",
		"zap fire spell 1")
	return lay(t, b, "horn 0 1", "flat 0 2", "drum 0 3", "brush 0 4", "lord 0 5", "bear 1 6", "calf 1 7").off(t, "bear").off(t, "zap")
}

// relics are what the four relics of the tower are all the way up, zeros what the things off the table are.
func relics(units ...string) []string {
	all := append([]string{"0 air 0/0 lone", "0 air 0/0 -", "0 fire 0/0 -", "0 water 0/0 -"}, units...)
	return append(all, slices.Repeat([]string{"zero"}, 8)...)
}

func TestBehindEachLayer(t *testing.T) {
	sc := tower(t)
	calf := "1 earth 1/2 -"
	sc.wantBehind(t, 0, relics("0 void 1/1 -", "1 earth 2/3 guard", calf)...)
	sc.wantBehind(t, 1, relics("0 void 1/1 -", "0 earth 2/3 guard", calf)...)
	sc.wantBehind(t, 2, relics("0 gold 1/1 -", "0 gold 2/3 guard", calf)...)
	sc.wantBehind(t, 3, relics("0 gold 1/1 fast", "0 gold 2/3 fast guard", calf)...)
	sc.wantBehind(t, 4, relics("0 gold 4/4 fast", "0 gold 4/4 fast guard", calf)...)
	sc.wantBehind(t, 5, relics("0 gold -5/-5 fast", "0 gold -5/-5 fast guard", calf)...)
	sc.wantBehind(t, 6, relics("0 gold 0/-5 fast", "0 gold 0/-5 fast guard", calf)...)
	sc.wantOf(t, relics("0 gold 0/-5 fast", "0 gold 0/-5 fast guard", calf)...)
}

// Marks count behind the layer 5 alone: neither Base nor Raise asks for them, and what they take away below 0 power is given back by no layer.
func TestMarksCountBehindAllLayers(t *testing.T) {
	plain, sc := tower(t), tower(t)
	sc.things[4].Marks = [4]int{0, 1}
	sc.things[5].Marks = [4]int{7, 0}
	sc.things[6].Marks = [4]int{1, 4}
	for k := range 6 {
		want, _ := view.Behind(plain.b, plain.things, k)
		sc.wantBehind(t, k, toldAll(want)...)
	}
	sc.wantOf(t, relics("0 gold 0/-6 fast", "0 gold 2/2 fast guard", "1 earth 0/-1 -")...)
}

// marks is a book with these marks, and a unit and a relic.
func marks(t testing.TB, infos ...api.MarkInfo) *book.Book {
	t.Helper()
	b := book.New()
	b.Card(api.Card{Name: "bear", Suit: api.Earth, Kind: api.Unit, Power: 20, Health: 30})
	b.Card(api.Card{Name: "cup", Suit: api.Gold, Kind: api.Relic})
	for _, m := range infos {
		if e := b.Mark(m); e != api.OK {
			t.Fatalf("Mark(%+v) = %d", m, e)
		}
	}
	return closed(t, b)
}

// A mark adds what the book says of it; one that the book has not adds nothing.
func TestMarksThatTheBookHas(t *testing.T) {
	up := api.MarkInfo{Mark: api.Up, Name: "up", Power: 3, Health: -2}
	down := api.MarkInfo{Mark: api.Down, Name: "down", Power: -9, Health: 9}
	shield := api.MarkInfo{Mark: api.Shield, Name: "shield"}
	charge := api.MarkInfo{Mark: api.Charge, Name: "charge", Power: 5, Health: 1}
	for _, c := range []struct {
		infos []api.MarkInfo
		on    [4]int
		bear  string
		cup   string
	}{
		{nil, [4]int{99, 99, 99, 99}, "1 earth 20/30 -", "0 gold 0/0 -"},
		{[]api.MarkInfo{up}, [4]int{}, "1 earth 20/30 -", "0 gold 0/0 -"},
		{[]api.MarkInfo{up}, [4]int{2, 99, 99, 99}, "1 earth 26/26 -", "0 gold 6/-4 -"},
		{[]api.MarkInfo{down}, [4]int{99, 2, 99, 99}, "1 earth 2/48 -", "0 gold 0/18 -"},
		{[]api.MarkInfo{down}, [4]int{0, 3, 0, 0}, "1 earth 0/57 -", "0 gold 0/27 -"},
		{[]api.MarkInfo{up}, [4]int{99, 0, 0, 0}, "1 earth 317/-168 -", "0 gold 297/-198 -"},
		{[]api.MarkInfo{shield}, [4]int{0, 0, 99, 0}, "1 earth 20/30 -", "0 gold 0/0 -"},
		{[]api.MarkInfo{charge}, [4]int{1, 1, 1, 2}, "1 earth 30/32 -", "0 gold 10/2 -"},
		{[]api.MarkInfo{up, down, shield, charge}, [4]int{1, 2, 3, 4}, "1 earth 25/50 -", "0 gold 5/20 -"},
		{[]api.MarkInfo{up, down, charge}, [4]int{0, 5, 0, 5}, "1 earth 0/80 -", "0 gold 0/50 -"},
		{[]api.MarkInfo{down, charge}, [4]int{9, 5, 9, 9}, "1 earth 20/84 -", "0 gold 0/54 -"},
	} {
		sc := lay(t, marks(t, c.infos...), "bear 1 1", "cup 0 2").off(t, "bear")
		for i := range sc.things {
			sc.things[i].Marks = c.on
		}
		sc.wantOf(t, c.bear, c.cup, "zero", "zero", "zero", "zero")
		sc.wantBehind(t, 5, "1 earth 20/30 -", "0 gold 0/0 -", "zero", "zero", "zero", "zero")
	}
}

// Each thing has its own marks.
func TestMarksOfSeveralThings(t *testing.T) {
	sc := lay(t, sealed(t, exampleCards()...), "bear 0 3", "bear 1 1", "crown 1 9", "bear 0 2")
	for i := range sc.things {
		sc.things[i].Marks = [4]int{i, 2, 50, i}
	}
	sc.wantOf(t, "0 earth 0/0 -", "1 earth 1/1 -", "1 gold 0/0 -", "0 earth 3/3 -")
}

// A thing is Mute by the features with which a layer begins.
func TestMuteWhenALayerBegins(t *testing.T) {
	b := sealed(t,
		"gag void relic 1 | always grant dyed fire mute",
		"free void relic 1 | always strip dyed water mute",
		"imp fire unit 1 1/1 | always dye self gold | always grant self swift | always base self 7 | always raise self 2",
		"elf fire unit 1 1/1 | always seize self | always grant self swift | always base self 7 | always raise self 2",
		"eel water unit 1 1/1 +mute | always dye self gold | always grant self swift | always base self 7 | always raise self 2")
	sc := lay(t, b, "imp 0 1", "elf 0 2", "eel 0 3", "free 1 4", "gag 1 5")
	sc.wantOf(t, "0 gold 9/9 swift", "0 fire 1/1 mute swift", "0 water 9/9 -", "1 void 0/0 -", "1 void 0/0 -")
	sc.wantSteps(t, "2.0 1.0 1.1 2.1 4.0 5.0 1.2 3.2 1.3 3.3")
	sc.wantWhy(t, 2, "2.0 2.1 5.0")
	sc.wantWhy(t, 3, "4.0 3.2 3.3")
}

// The examples 6 and 8 of the whole, in the book of the six suits.
func TestTheBookOfTheSixSuits(t *testing.T) {
	sc := lay(t, whole.Book(), "rampart 0 1", "golem 0 2", "kite 1 3")
	sc.wantOf(t, "0 earth 0/0 -", "0 earth 5/6 guard", "1 air 2/1 fast")
	sc.wantSteps(t, "1.1 1.0")
	sc.wantWhy(t, 2, "1.1 1.0")
	sc.wantWhy(t, 3, "")
	sc = lay(t, sc.b, "rampart 0 1", "golem 0 2", "kite 1 3", "midas 1 4")
	sc.wantOf(t, "0 earth 0/0 -", "0 gold 4/5 guard", "1 gold 2/1 fast", "1 gold 4/4 -")
	sc.wantSteps(t, "4.0 1.1 1.0")
	sc.wantWhy(t, 2, "4.0 1.1")
	sc = lay(t, sc.b, "phoenix 0 1", "siren 1 2", "nullifier 0 3", "boulder 1 4")
	sc.things[3].Marks = [4]int{1, 2, 1, 5}
	sc.wantOf(t, "1 fire 4/2 fast mute", "1 water 1/3 -", "0 void 2/4 -", "1 earth 0/3 guard")
	sc.wantSteps(t, "2.0 2.1 3.0 3.1")
}
