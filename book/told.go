package book

import (
	"iter"
	"slices"

	"gambit/api"
	"gambit/card"
)

// list is the cards in their order, where they stand: none of what is no book.
func (b *Book) list() []api.Card {
	if !b.isBook() {
		return nil
	}
	return b.cards[:b.count]
}

// place tells where a name's card stands: -1, if there is none.
func (b *Book) place(name string) int {
	return slices.IndexFunc(b.list(), func(c api.Card) bool { return c.Name == name })
}

// Sealed tells whether it is sealed.
func (b *Book) Sealed() bool { return b.isBook() && b.sealed }

// Len tells how many cards there are.
func (b *Book) Len() int { return len(b.list()) }

// Has tells whether a card has a name.
func (b *Book) Has(name string) bool { return b.place(name) >= 0 }

// At gives the card of a number.
func (b *Book) At(n int) (api.Card, api.Errno) {
	switch {
	case !b.isBook():
		return api.Card{}, api.ErrNil
	case !b.sealed || n < 1 || n > b.count:
		return api.Card{}, api.ErrMissing
	}
	return card.Copy(b.cards[n-1]), api.OK
}

// Find gives the number of a name's card.
func (b *Book) Find(name string) (int, api.Errno) {
	place := b.place(name)
	switch {
	case !b.isBook():
		return 0, api.ErrNil
	case !b.sealed || place < 0:
		return 0, api.ErrMissing
	}
	return place + 1, api.OK
}

// Cards goes over all cards.
func (b *Book) Cards() iter.Seq[api.Card] {
	// A list of its own: cards that are added later are not gone over.
	cards := slices.Clone(b.list())
	return func(yield func(api.Card) bool) {
		for _, c := range cards {
			if !yield(card.Copy(c)) {
				return
			}
		}
	}
}

// TraitName gives a trait's name.
func (b *Book) TraitName(t api.Trait) (string, bool) {
	if !b.isBook() || int(t) >= len(b.traits) {
		return "", false
	}
	name := b.traits[t]
	return name, name != ""
}

// MarkOf gives what a mark registered as.
func (b *Book) MarkOf(m api.Mark) (api.MarkInfo, bool) {
	if !b.isBook() || int(m) >= len(b.marks) {
		return api.MarkInfo{}, false
	}
	info := b.marks[m]
	return info, info.Name != ""
}
