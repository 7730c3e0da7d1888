package deck_test

import (
	"slices"
	"strings"
	"sync"
	"testing"

	"gambit/api"
	"gambit/book"
	"gambit/deck"
	"gambit/whole"
)

// Rule 4: what was handed in stays, and may be written over; each answer is new memory.

const spare = 8

// roomy is a list with spare room behind it, in which another number stands, and the whole room.
func roomy(l []int, behind int) (list, room []int) {
	room = append(slices.Clone(l), slices.Repeat([]int{behind}, spare)...)
	return room[:len(l)], room
}

// writeOver writes a number into a list, its spare room too.
func writeOver(l []int, n int) {
	for i := range l[:cap(l)] {
		l[:cap(l)][i] = n
	}
}

func lists() [][]int {
	return [][]int{nil, {1}, {1, 1}, {0}, {2, 1, 99}, full(11), full(12), full(40), set(full(12), 5, 0), slices.Repeat([]int{2}, 40), slices.Repeat([]int{2}, 41)}
}

func TestWhatIsHandedInStays(t *testing.T) {
	b := whole.Book()
	for _, l := range lists() {
		for _, behind := range []int{0, 1, 2, 99} { // numbers that would be counted, or be a fault, or make a run longer
			list, room := roomy(l, behind)
			before := slices.Clone(room)
			text, fault := deck.Print(b, l)
			wantCheck(t, b, list, deck.Check(b, l))
			wantCount(t, list, behind, deck.Count(l, behind))
			wantPrint(t, b, list, text, fault)
			if !slices.Equal(room, before) {
				t.Errorf("the room is %v, want %v", room, before)
			}
		}
	}
}

func TestAnswersStayWhenTheListIsWrittenOver(t *testing.T) {
	b := whole.Book()
	list, room := roomy([]int{1, 1, 2}, 0)
	text, _ := deck.Print(b, list)
	writeOver(room, 3)
	if text != "2 breeze\n1 calm\n" {
		t.Errorf("behind the list's writing over: %q", text)
	}
	wantPrint(t, b, list, "3 flock\n", fine)
}

func TestParsedListsShareNoMemory(t *testing.T) {
	b := whole.Book()
	for _, l := range lists() {
		text, _ := deck.Print(b, l)
		want, _ := parsedBy(b, text)
		one, _ := deck.Parse(b, text)
		two, _ := deck.Parse(b, text)
		writeOver(one, -7)
		_ = append(one, -7)
		if !slices.Equal(two, want) {
			t.Errorf("the other answer is %v, want %v", two, want)
		}
		wantParse(t, b, text, want, fine)
	}
}

// parsedBy reads a text as a copy of its own.
func parsedBy(b *book.Book, text string) ([]int, api.Fault) {
	list, fault := deck.Parse(b, strings.Clone(text))
	return slices.Clone(list), fault
}

func TestSpareRoomOfParsedListsIsEmpty(t *testing.T) {
	b := whole.Book()
	for _, l := range lists() {
		text, _ := deck.Print(b, l)
		list, _ := deck.Parse(b, text)
		for _, n := range list[len(list):cap(list)] {
			if n != 0 {
				t.Errorf("Parse(%q) has %v in its spare room", text, list[len(list):cap(list)])
			}
		}
	}
}

// Rule 3 and P7.7: no call changes the book.
func TestBookStays(t *testing.T) {
	b := whole.Book()
	open := book.New()
	for _, l := range lists() {
		for _, which := range []*book.Book{b, open} {
			deck.Check(which, l)
			text, _ := deck.Print(which, l)
			deck.Parse(which, text)
			deck.Parse(which, text+"1 x\n")
		}
	}
	if !book.Same(b, whole.Book()) || !book.Same(open, book.New()) {
		t.Error("a book was changed")
	}
}

// Rule 8: many may ask at the same time, of one book and one list.
func TestManyGoroutinesAsk(t *testing.T) {
	b := whole.Book()
	list, room := roomy(full(40), 99)
	before := slices.Clone(room)
	want, _ := deck.Print(b, list)
	var all sync.WaitGroup
	for range 8 {
		all.Go(func() {
			for range 20 {
				text, _ := deck.Print(b, list)
				got, fault := deck.Parse(b, text)
				if text != want || fault != fine || !slices.Equal(got, list) || deck.Check(b, list) != fine || deck.Count(list, 1) != 3 {
					t.Errorf("%q, %v, %v", text, got, fault)
				}
				writeOver(got, -7)
			}
		})
	}
	all.Wait()
	if !slices.Equal(room, before) {
		t.Errorf("the room is %v, want %v", room, before)
	}
}
