package pile

import "gambit/api"

const maxHands = 64

// Deal deals hands, round.
func Deal(l []int, hands, each int) ([][]int, []int, api.Errno) {
	if !dealable(len(l), hands, each) {
		return nil, nil, api.ErrArg
	}
	dealt := make([][]int, hands)
	for h := range dealt {
		dealt[h] = hand(l, h, hands, each)
	}
	return dealt, joined(l[hands*each:], nil), api.OK
}

// dealable tells whether so many numbers are enough for these hands. It divides, since hands times each may pass what an int holds.
func dealable(count, hands, each int) bool {
	return hands >= 1 && hands <= maxHands && each >= 0 && each <= count/hands
}

// hand gives what the hand h gets.
func hand(l []int, h, hands, each int) []int {
	list := make([]int, each)
	for k := range list {
		list[k] = l[h+k*hands]
	}
	return list
}
