package pile_test

import (
	"math"
	"math/big"
	"testing"

	"gambit/pile"
)

// step is what the generator adds to its state.
const step uint64 = 0x9e3779b97f4a7c15

// states are some from all over 64 bits: the edges, and those whose sum with the step is 0, or just about it.
func states() []uint64 {
	list := []uint64{
		0, 1, 2, 9, 1234567, step, ^step, ^step + 1, ^step + 2,
		math.MaxInt64, math.MaxInt64 + 1, math.MaxUint64, math.MaxUint64 - 1,
	}
	for bit := range 64 {
		list = append(list, 1<<bit, ^uint64(1<<bit))
	}
	return list
}

// modulo is what is left of a number modulo 2^64.
func modulo(n *big.Int) *big.Int {
	return new(big.Int).Mod(n, new(big.Int).Lsh(big.NewInt(1), 64))
}

// mixed is z xor (z >> by).
func mixed(z *big.Int, by uint) *big.Int {
	return new(big.Int).Xor(z, new(big.Int).Rsh(z, by))
}

// times is a number times a factor of 64 bits, modulo 2^64.
func times(z *big.Int, factor uint64) *big.Int {
	return modulo(new(big.Int).Mul(z, new(big.Int).SetUint64(factor)))
}

// wantNext reckons the generator as the chapter says it, with numbers that have no bound.
func wantNext(state uint64) (uint64, uint64) {
	sum := new(big.Int).Add(new(big.Int).SetUint64(state), new(big.Int).SetUint64(step))
	then := modulo(sum)
	z := times(mixed(then, 30), 0xbf58476d1ce4e5b9)
	z = times(mixed(z, 27), 0x94d049bb133111eb)
	return mixed(z, 31).Uint64(), then.Uint64()
}

// P15.1

func TestNext(t *testing.T) {
	for _, row := range [][3]uint64{
		{0, 16294208416658607535, 11400714819323198485},
		{1, 10451216379200822465, 11400714819323198486},
		{2, 10905525725756348110, 11400714819323198487},
		{9, 12587370737594032228, 11400714819323198494},
		{1 << 31, 2686745474645717868, 11400714821470682133},
		{1 << 32, 14135772400868000056, 11400714823618165781},
		{1<<63 - 1, 3055647633038352039, 2177342782468422676},
		{1 << 63, 5196802822362493915, 2177342782468422677},
		{math.MaxUint64 - 1, 17519071339639777313, 11400714819323198483},
		{math.MaxUint64, 16490336266968443936, 11400714819323198484},
		{7046029254386353130, 13029008266876403067, 18446744073709551615},
		{7046029254386353131, 0, 0},
		{11400714819323198485, 7960286522194355700, 4354685564936845354},
	} {
		if number, then := pile.Next(row[0]); number != row[1] || then != row[2] {
			t.Errorf("Next(%d) = %d, %d, want %d, %d", row[0], number, then, row[1], row[2])
		}
	}
}

func TestNextFromStateToState(t *testing.T) {
	state := uint64(1234567)
	for i, want := range []uint64{
		6457827717110365317, 3203168211198807973, 9817491932198370423,
		4593380528125082431, 16408922859458223821,
	} {
		var number uint64
		number, state = pile.Next(state)
		if number != want {
			t.Errorf("the number %d = %d, want %d", i, number, want)
		}
	}
}

func TestNextModulo(t *testing.T) {
	for _, state := range states() {
		for range 20 {
			number, then := pile.Next(state)
			wantNumber, wantThen := wantNext(state)
			if number != wantNumber || then != wantThen {
				t.Fatalf("Next(%d) = %d, %d, want %d, %d", state, number, then, wantNumber, wantThen)
			}
			state = then
		}
	}
}

// Nothing is kept from call to call.
func TestNextOfTheSameState(t *testing.T) {
	for _, state := range states() {
		number, then := pile.Next(state)
		pile.Next(then)
		pile.Shuffle(rising(5), state)
		if n, s := pile.Next(state); n != number || s != then {
			t.Errorf("Next(%d) once more = %d, %d, want %d, %d", state, n, s, number, then)
		}
	}
}
