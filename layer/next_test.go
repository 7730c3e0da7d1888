package layer_test

import (
	"slices"
	"testing"

	"gambit/api"
)

// P19.5

// wantNextOf: of these effects, each told by its thing and its place, the one of that pair comes next, in whatever order they are listed.
func wantNextOf(t *testing.T, sc scene, want [2]int, left ...[2]int) {
	t.Helper()
	for order := range permutations(len(left)) {
		var list [][2]int
		for _, i := range order {
			list = append(list, left[i])
		}
		sc.wantNext(t, sc.effects(t, list...), slices.Index(list, want))
	}
}

// permutations goes over all orders of 0 to n - 1.
func permutations(n int) func(yield func([]int) bool) {
	return func(yield func([]int) bool) {
		var further func(ahead []int) bool
		further = func(ahead []int) bool {
			if len(ahead) == n {
				return yield(ahead)
			}
			for i := range n {
				if !slices.Contains(ahead, i) && !further(append(slices.Clone(ahead), i)) {
					return false
				}
			}
			return true
		}
		further(nil)
	}
}

// tangle is a scene of the cards of tangleCards.
func tangle(t testing.TB, table ...lain) scene {
	t.Helper()
	return lay(t, sealed(t, tangleCards()...), table...)
}

func TestNextOfNone(t *testing.T) {
	for _, sc := range []scene{example(t), tangle(t), tangle(t, lain{"curb", 0, 1}, lain{"spur", 0, 2})} {
		sc.wantNext(t, nil, -1)
		sc.wantNext(t, []api.Standing{}, -1)
	}
}

func TestNextOfOne(t *testing.T) {
	sc := tangle(t, lain{"curb", 0, 1}, lain{"spur", 0, 2}, lain{"theirs", 1, 3}, lain{"bear", 0, 4})
	for n := 1; n <= 3; n++ {
		wantNextOf(t, sc, [2]int{n, 0}, [2]int{n, 0})
	}
}

// Where none depends on another one the least stamp comes first, not the least number, nor the first in the list; of one thing's effects the least place.
func TestNextByTheOrderOfEffects(t *testing.T) {
	b := sealed(t, relic("many", api.Air, raise(api.All, 1), raise(api.Self, 2), base(api.All, 1), raise(api.All, 3)), unit("bear", api.Earth))
	sc := lay(t, b, lain{"many", 0, 30}, lain{"many", 1, 20}, lain{"bear", 0, 5}, lain{"many", 0, 25})
	wantNextOf(t, sc, [2]int{2, 0}, [2]int{1, 0}, [2]int{2, 0}, [2]int{4, 0})
	wantNextOf(t, sc, [2]int{2, 3}, [2]int{1, 0}, [2]int{2, 3}, [2]int{4, 1})
	wantNextOf(t, sc, [2]int{2, 1}, [2]int{2, 1}, [2]int{2, 3}, [2]int{4, 0}, [2]int{1, 0})
	wantNextOf(t, sc, [2]int{4, 1}, [2]int{4, 3}, [2]int{4, 1}, [2]int{1, 0}, [2]int{1, 3})
	wantNextOf(t, sc, [2]int{1, 0}, [2]int{1, 0}, [2]int{1, 1}, [2]int{1, 3})
}

func TestNextWhereTheFirstDepends(t *testing.T) {
	sc := tangle(t, lain{"curb", 0, 1}, lain{"spur", 0, 2}, lain{"bear", 0, 3}, lain{"guard", 0, 4}, lain{"same", 1, 5})
	wantNextOf(t, sc, [2]int{2, 0}, [2]int{1, 0}, [2]int{2, 0})
	wantNextOf(t, sc, [2]int{2, 0}, [2]int{1, 0}, [2]int{2, 0}, [2]int{4, 0})
	wantNextOf(t, sc, [2]int{2, 0}, [2]int{1, 0}, [2]int{2, 0}, [2]int{4, 0}, [2]int{5, 0})
	// Without the one on which they depend the first is free again.
	wantNextOf(t, sc, [2]int{1, 0}, [2]int{1, 0}, [2]int{4, 0}, [2]int{5, 0})
	wantNextOf(t, sc, [2]int{4, 0}, [2]int{4, 0}, [2]int{5, 0})
	wantNextOf(t, sc, [2]int{2, 0}, [2]int{2, 0}, [2]int{5, 0})
}

// The first that is free may be the last of all.
func TestNextWhereTheLastIsFree(t *testing.T) {
	sc := tangle(t, lain{"hare", 0, 9}, lain{"curb", 0, 1}, lain{"curb", 1, 2}, lain{"same", 0, 3}, lain{"slow", 1, 4})
	wantNextOf(t, sc, [2]int{5, 0}, [2]int{2, 0}, [2]int{3, 0}, [2]int{4, 0}, [2]int{5, 0})
	sc.things[4].Stamp = 8
	wantNextOf(t, sc, [2]int{5, 0}, [2]int{2, 0}, [2]int{3, 0}, [2]int{4, 0}, [2]int{5, 0})
}

// Two depend on each other, a third one on none: it comes next, wherever it stands.
func TestNextBesideACircle(t *testing.T) {
	for _, stamp := range []int{1, 15, 25, 35} {
		sc := tangle(t, lain{"thief", 0, 10}, lain{"thief", 1, 20}, lain{"self", 0, stamp}, lain{"bear", 0, 30})
		wantNextOf(t, sc, [2]int{3, 0}, [2]int{1, 0}, [2]int{2, 0}, [2]int{3, 0})
	}
}

func TestNextWhereEachDepends(t *testing.T) {
	sc := tangle(t, lain{"thief", 0, 4}, lain{"thief", 1, 2})
	wantNextOf(t, sc, [2]int{2, 0}, [2]int{1, 0}, [2]int{2, 0})
	sc.things[1].Stamp = 6
	wantNextOf(t, sc, [2]int{1, 0}, [2]int{1, 0}, [2]int{2, 0})
	sc = tangle(t, lain{"twin", 0, 3}, lain{"curb", 1, 2}, lain{"curb", 0, 4}, lain{"hare", 0, 1})
	wantNextOf(t, sc, [2]int{2, 0}, [2]int{1, 0}, [2]int{1, 1}, [2]int{2, 0}, [2]int{3, 0})
	wantNextOf(t, sc, [2]int{1, 0}, [2]int{1, 0}, [2]int{1, 1}, [2]int{3, 0})
	wantNextOf(t, sc, [2]int{1, 0}, [2]int{1, 0}, [2]int{1, 1})
}

// Features count: where the others are held by one player, nobody is seized, and none depends.
func TestNextGoesByFeatures(t *testing.T) {
	sc := tangle(t, lain{"yours", 0, 1}, lain{"theirs", 1, 2}, lain{"bear", 0, 3})
	wantNextOf(t, sc, [2]int{2, 0}, [2]int{1, 0}, [2]int{2, 0})
	sc.fs[2].Holder = 1
	wantNextOf(t, sc, [2]int{1, 0}, [2]int{1, 0}, [2]int{2, 0})
}
