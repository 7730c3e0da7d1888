package deck

import (
	"strconv"
	"strings"

	"gambit/api"
	"gambit/book"
	"gambit/naming"
)

// Print gives a deck's text.
func Print(b *book.Book, l []int) (string, api.Fault) {
	if refused := refusal(b); refused != api.OK {
		return "", nowhere(refused)
	}
	if len(l) > api.MaxDeck {
		return "", nowhere(api.ErrDeck)
	}
	text := ""
	for at := 0; at < len(l); {
		c, missing := b.At(l[at])
		if missing != api.OK {
			return "", api.Fault{Err: missing, At: at}
		}
		times := run(l[at:])
		text += strconv.Itoa(times) + " " + c.Name + "\n"
		at += times
	}
	return text, api.Fault{}
}

// run tells how often a list's first number stands at its beginning, one behind the other.
func run(l []int) int {
	times := 1
	for times < len(l) && l[times] == l[0] {
		times++
	}
	return times
}

// Parse reads a deck's text.
func Parse(b *book.Book, s string) ([]int, api.Fault) {
	if refused := refusal(b); refused != api.OK {
		return nil, nowhere(refused)
	}
	var cards [api.MaxDeck + 1]int // with room for the one that is too many
	count, ahead := 0, 0           // ahead: the card of the line ahead; no card has the number 0
lines:
	for at := 0; s != ""; at++ {
		line, rest, ended := strings.Cut(s, "\n")
		times, name, ok := readLine(line)
		if !ended || !ok {
			return nil, api.Fault{Err: api.ErrDeckText, At: at}
		}
		n, missing := b.Find(name)
		switch {
		case missing != api.OK:
			return nil, api.Fault{Err: missing, At: at}
		case n == ahead:
			return nil, api.Fault{Err: api.ErrDeckText, At: at}
		}
		for range times {
			cards[count] = n
			count++
			if count == len(cards) {
				break lines
			}
		}
		ahead, s = n, rest
	}
	if count > api.MaxDeck {
		return nil, nowhere(api.ErrDeck)
	}
	list := make([]int, count)
	copy(list, cards[:])
	return list, api.Fault{}
}

// readLine reads how many, a blank and a name. Without a blank there is no name either.
func readLine(line string) (times int, name string, ok bool) {
	digits, name, _ := strings.Cut(line, " ")
	times, ok = readTimes(digits)
	return times, name, ok && naming.Is(name)
}

// readTimes reads how many. The digits are held against those that the number is told by: Atoi takes signs and noughts ahead too.
func readTimes(digits string) (int, bool) {
	times, err := strconv.Atoi(digits)
	return times, err == nil && times >= 1 && times <= api.MaxDeck && strconv.Itoa(times) == digits
}
