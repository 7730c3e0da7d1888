package view

import (
	"slices"

	"gambit/api"
	"gambit/book"
	"gambit/layer"
	"gambit/thing"
)

// scene is a book and things that go together, so that no call of a layer below refuses them, and the things' printed features.
type scene struct {
	b       *book.Book
	things  []api.Thing
	printed []api.Feature
}

// floor is one layer: the features with which it begins, the effects that were applied in it, and the features behind it.
type floor struct {
	ground  []api.Feature
	applied []api.Standing
	top     []api.Feature
}

// look tells the scene of a book and things, or why they do not go together.
func look(b *book.Book, things []api.Thing) (scene, api.Errno) {
	// Of too many things none needs its features: their number is refused.
	fs := printed(b, things[:min(len(things), api.MaxThings)])
	// What does not go together is refused whichever layer is asked for.
	if _, refused := layer.Effects(b, things, fs, last); refused != api.OK {
		return scene{}, refused
	}
	for _, x := range things {
		if x.Place != api.Table {
			continue
		}
		if _, refused := thing.Marked(b, api.Feature{}, x.Marks); refused != api.OK {
			return scene{}, refused
		}
	}
	return scene{b, things, fs}, api.OK
}

// printed tells what is printed on the things on the table, zero of all others. It is zero of a thing that may not be, too, which is refused behind that.
func printed(b *book.Book, things []api.Thing) []api.Feature {
	fs := make([]api.Feature, len(things))
	for i, x := range things {
		if x.Place == api.Table {
			fs[i], _ = thing.Printed(b, x)
		}
	}
	return fs
}

// onTable tells whether n is the number of a thing on the table.
func (sc scene) onTable(n int) bool {
	return n >= 1 && n <= len(sc.things) && sc.things[n-1].Place == api.Table
}

// climber answers a closure that tells one layer more each time it is called, from the first on.
func (sc scene) climber() func() floor {
	k, fs := 0, sc.printed
	return func() floor {
		k++
		now := floor{ground: fs}
		now.top, now.applied, _ = layer.All(sc.b, sc.things, fs, k)
		fs = now.top
		return now
	}
}

// about tells those of a layer's effects that were about the thing n. Within a layer one effect may change whom the next one is about, so they are applied once more, one by one.
func (sc scene) about(n int, now floor) []api.Standing {
	var list []api.Standing
	fs := now.ground
	for _, s := range now.applied {
		if numbers, _ := layer.About(sc.b, sc.things, fs, s); slices.Contains(numbers, n) {
			list = append(list, s)
		}
		fs, _ = layer.Apply(sc.b, sc.things, fs, s)
	}
	return list
}

// marked tells features with what lies on the things on the table.
func (sc scene) marked(fs []api.Feature) []api.Feature {
	list := make([]api.Feature, len(fs))
	for i, x := range sc.things {
		if x.Place == api.Table {
			list[i], _ = thing.Marked(sc.b, fs[i], x.Marks)
		}
	}
	return list
}
