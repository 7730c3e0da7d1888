package suit_test

import (
	"iter"
	"math"
	"slices"
	"strings"
	"sync"
	"testing"

	"gambit/api"
	"gambit/rank"
	"gambit/start"
	"gambit/suit"
)

// facts is what the document says of a suit.
type facts struct {
	name          string
	beats, beaten api.Suit
	weight        int
}

func wanted() map[api.Suit]facts {
	return map[api.Suit]facts{
		api.Air:   {"air", api.Earth, api.Gold, 3},
		api.Earth: {"earth", api.Water, api.Air, 2},
		api.Fire:  {"fire", api.Void, api.Water, 7},
		api.Water: {"water", api.Fire, api.Earth, 11},
		api.Void:  {"void", api.Gold, api.Fire, 18},
		api.Gold:  {"gold", api.Air, api.Void, 3},
	}
}

func wantAll() []api.Suit { return []api.Suit{1, 2, 3, 4, 5, 6} }

// noSuits are all numbers that are no suit.
func noSuits() []api.Suit {
	list := []api.Suit{0}
	for n := api.Suits + 1; n <= math.MaxUint8; n++ {
		list = append(list, api.Suit(n))
	}
	return list
}

// P3.1

func TestNameOfEachSuit(t *testing.T) {
	for s, want := range wanted() {
		if got := suit.Name(s); got != want.name {
			t.Errorf("Name(%d) = %q, want %q", s, got, want.name)
		}
	}
}

func TestNameOfNoSuit(t *testing.T) {
	for _, s := range noSuits() {
		if got := suit.Name(s); got != "" {
			t.Errorf("Name(%d) = %q, want no bytes", s, got)
		}
	}
}

func TestOfEachName(t *testing.T) {
	for want, f := range wanted() {
		if s, ok := suit.Of(f.name); s != want || !ok {
			t.Errorf("Of(%q) = %d, %v, want %d, true", f.name, s, ok, want)
		}
	}
}

func TestOfNoName(t *testing.T) {
	wrong := []string{"", "\x00", "6", "gold\x00", "gol\xff", "goldgold", "air earth", "airearth", strings.Repeat("gold", 1000)}
	for _, f := range wanted() {
		capital := strings.ToUpper(f.name[:1]) + f.name[1:]
		wrong = append(wrong, capital, strings.ToUpper(f.name), f.name[1:], f.name[:len(f.name)-1], f.name+"s", " "+f.name, f.name+" ")
	}
	for _, name := range wrong {
		if s, ok := suit.Of(name); s != 0 || ok {
			t.Errorf("Of(%q) = %d, %v, want 0, false", name, s, ok)
		}
	}
}

// P3.2

func TestBeatsAndBeatenOfEachSuit(t *testing.T) {
	for s, want := range wanted() {
		if got := suit.Beats(s); got != want.beats {
			t.Errorf("Beats(%d) = %d, want %d", s, got, want.beats)
		}
		if got := suit.Beaten(s); got != want.beaten {
			t.Errorf("Beaten(%d) = %d, want %d", s, got, want.beaten)
		}
	}
}

func TestBeatsAndBeatenOfNoSuit(t *testing.T) {
	for _, s := range noSuits() {
		if beats, beaten := suit.Beats(s), suit.Beaten(s); beats != 0 || beaten != 0 {
			t.Errorf("Beats(%d), Beaten(%d) = %d, %d, want 0, 0", s, s, beats, beaten)
		}
	}
}

// P3.3

func TestWeightOfEachSuit(t *testing.T) {
	for s, want := range wanted() {
		if got := suit.Weight(s); got != want.weight {
			t.Errorf("Weight(%d) = %d, want %d", s, got, want.weight)
		}
	}
}

func TestWeightIsRanksValue(t *testing.T) {
	for s := range wanted() {
		value, _, e := rank.Of((int(s) - 1) % 5)
		if got := suit.Weight(s); e != api.OK || got != value {
			t.Errorf("Weight(%d) = %d, rank tells %d, %v", s, got, value, e)
		}
	}
}

func TestWeightOfNoSuit(t *testing.T) {
	for _, s := range noSuits() {
		if got := suit.Weight(s); got != 0 {
			t.Errorf("Weight(%d) = %d, want 0", s, got)
		}
	}
}

// P3.4

// taken are the first suits, at most so many, of what is gone over; it stops as soon as it has them.
func taken(all iter.Seq[api.Suit], most int) []api.Suit {
	var list []api.Suit
	for s := range all {
		list = append(list, s)
		if len(list) == most {
			break
		}
	}
	return list
}

func TestAllGoneOverWhole(t *testing.T) {
	if got := slices.Collect(suit.All()); !slices.Equal(got, wantAll()) {
		t.Errorf("All() = %v, want %v", got, wantAll())
	}
}

func TestAllStoppedEarlyAndGoneOverAgain(t *testing.T) {
	all := suit.All()
	for most := 1; most <= api.Suits; most++ {
		if got := taken(all, most); !slices.Equal(got, wantAll()[:most]) {
			t.Errorf("the first %d of All() = %v, want %v", most, got, wantAll()[:most])
		}
		if got := slices.Collect(all); !slices.Equal(got, wantAll()) {
			t.Errorf("All() gone over again behind a stop at %d = %v", most, got)
		}
	}
}

func TestAllGoneOverInsideItself(t *testing.T) {
	all := suit.All()
	var outer []api.Suit
	for s := range all {
		outer = append(outer, s)
		if got := slices.Collect(all); !slices.Equal(got, wantAll()) {
			t.Errorf("All() inside the suit %d = %v", s, got)
		}
	}
	if !slices.Equal(outer, wantAll()) {
		t.Errorf("All() around others = %v", outer)
	}
}

// P3.5 (notes in logs of every kind are tested with all layers that begin: package noting)

func TestBegin(t *testing.T) {
	l := start.New()
	if got := suit.Begin(l); got != 2 {
		t.Errorf("Begin = %d, want 2", got)
	}
	if got := l.List(); !slices.Equal(got, []int{103, 203}) {
		t.Errorf("the log is %v, want 103 203", got)
	}
}

// P3.6

func TestOfAndNameUndoEachOther(t *testing.T) {
	for s, f := range wanted() {
		if got, ok := suit.Of(suit.Name(s)); got != s || !ok {
			t.Errorf("Of(Name(%d)) = %d, %v", s, got, ok)
		}
		found, _ := suit.Of(f.name)
		if got := suit.Name(found); got != f.name {
			t.Errorf("Name(Of(%q)) = %q", f.name, got)
		}
	}
}

func TestBeatsAndBeatenUndoEachOther(t *testing.T) {
	for s := range wanted() {
		if got := suit.Beaten(suit.Beats(s)); got != s {
			t.Errorf("Beaten(Beats(%d)) = %d", s, got)
		}
		if got := suit.Beats(suit.Beaten(s)); got != s {
			t.Errorf("Beats(Beaten(%d)) = %d", s, got)
		}
	}
}

func TestSixStepsComeBackAndNoFewer(t *testing.T) {
	for name, step := range map[string]func(api.Suit) api.Suit{"Beats": suit.Beats, "Beaten": suit.Beaten} {
		for s := range wanted() {
			at, steps := step(s), 1
			for at != s && steps <= api.Suits {
				at, steps = step(at), steps+1
			}
			if at != s || steps != api.Suits {
				t.Errorf("%d steps of %s go from %d to %d, want %d steps back to it", steps, name, s, at, api.Suits)
			}
		}
	}
}

// told is all that the package tells of every number, asked in the order that is handed in.
func told(order []api.Suit) map[api.Suit]facts {
	all := map[api.Suit]facts{}
	for _, s := range order {
		beaten, beats := suit.Beaten(s), suit.Beats(s)
		all[s] = facts{suit.Name(s), beats, beaten, suit.Weight(s)}
	}
	return all
}

// isAsWanted holds what was told against the document.
func isAsWanted(all map[api.Suit]facts) bool {
	want := wanted()
	for s, f := range all {
		if f != want[s] { // of no suit both are zero
			return false
		}
	}
	return len(all) == math.MaxUint8+1
}

func TestTheSameInWhateverOrder(t *testing.T) {
	rising := append(noSuits(), wantAll()...)
	slices.Sort(rising)
	falling := slices.Clone(rising)
	slices.Reverse(falling)
	for _, order := range [][]api.Suit{rising, falling, rising} {
		if got := told(order); !isAsWanted(got) {
			t.Errorf("asked from %d on: %v", order[0], got)
		}
		l := start.New()
		suit.Begin(l)
		l.Close()
		suit.Begin(l)
	}
}

func TestTheSameForManyGoroutines(t *testing.T) {
	order := append(noSuits(), wantAll()...)
	answers := make([]map[api.Suit]facts, 16)
	lists := make([][]api.Suit, 16)
	notes := make([][]int, 16)
	shared := suit.All()
	var all sync.WaitGroup
	for i := range answers {
		all.Go(func() {
			l := start.New()
			suit.Begin(l)
			answers[i], lists[i], notes[i] = told(order), slices.Collect(shared), l.List()
		})
	}
	all.Wait()
	for i := range answers {
		if !isAsWanted(answers[i]) || !slices.Equal(lists[i], wantAll()) || !slices.Equal(notes[i], []int{103, 203}) {
			t.Errorf("goroutine %d was told %v, All is %v, its log is %v", i, answers[i], lists[i], notes[i])
		}
	}
}
