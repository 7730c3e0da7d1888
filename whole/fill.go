package whole

import (
	"gambit/api"
	"gambit/book"
	"gambit/trait"
)

// sealedOf makes a book that suits' packages fill, one behind the other, and seals it.
func sealedOf(sources []source) (*book.Book, api.Errno) {
	b := book.New()
	for _, s := range sources {
		if refused := fill(b, s); refused != api.OK {
			return nil, refused
		}
	}
	if refused := b.Seal(); refused != api.OK {
		return nil, refused
	}
	return b, api.OK
}

// fill adds all that a suit's package has to a book, up to what the book refuses.
func fill(b *book.Book, s source) api.Errno {
	if refused := addAll(s.marks(), b.Mark); refused != api.OK {
		return refused
	}
	named := func(t api.Trait) api.Errno { return b.Trait(t, trait.Name(t)) }
	if refused := addAll(s.traits(), named); refused != api.OK {
		return refused
	}
	return addAll(s.list(), b.Card)
}

// addAll adds what a list has, in its order, up to what is refused.
func addAll[T any](list []T, add func(T) api.Errno) api.Errno {
	for _, one := range list {
		if refused := add(one); refused != api.OK {
			return refused
		}
	}
	return api.OK
}
