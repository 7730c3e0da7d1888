package naming_test

import (
	"math"
	"strings"
	"testing"

	"gambit/naming"
)

const (
	letters = "abcdefghijklmnopqrstuvwxyz"
	further = letters + "-"
)

// everyByte gives each byte as a text of its own.
func everyByte() []string {
	var list []string
	for b := range math.MaxUint8 + 1 {
		list = append(list, string([]byte{byte(b)}))
	}
	return list
}

func wantIs(t *testing.T, text string, want bool) {
	t.Helper()
	if got := naming.Is(text); got != want {
		t.Errorf("Is(%.80q) = %v, want %v", text, got, want)
	}
}

func TestIsOfEachByteAtEachPlace(t *testing.T) {
	for _, b := range everyByte() {
		wantIs(t, b, strings.Contains(letters, b))
		for length := 2; length <= 20; length++ {
			wantIs(t, b+strings.Repeat("z", length-1), strings.Contains(letters, b))
			for place := 1; place < length; place++ {
				text := strings.Repeat("a", place) + b + strings.Repeat("z", length-1-place)
				wantIs(t, text, strings.Contains(further, b))
			}
		}
	}
}

func TestIsOfEachLength(t *testing.T) {
	for length := range 100 {
		wantIs(t, strings.Repeat("a", length), length >= 1 && length <= 20)
		wantIs(t, strings.Repeat("-", length), false)
		wantIs(t, "a"+strings.Repeat("-", length), length <= 19)
	}
	wantIs(t, strings.Repeat("a", 1_000_000), false)
}

func TestIsOfWords(t *testing.T) {
	for text, want := range map[string]bool{
		"wisp": true, "a": true, "a-b": true, "a-": true, "a--b": true, "will-o-the-wisp": true,
		"Wisp": false, "wisP": false, "-wisp": false, "-": false, " wisp": false, "wisp ": false, "two words": false,
		"wisp1": false, "wisp_": false, "wisp\n": false, "wisp\x00": false, "\u00e4rger": false, "wei\u00df": false, "\u2013": false,
	} {
		wantIs(t, text, want)
	}
}

// The limit is one of bytes: eleven letters of two bytes each are too long, and ten are none that a name may have.
func TestIsCountsBytes(t *testing.T) {
	for _, count := range []int{1, 10, 11, 20, 21} {
		wantIs(t, strings.Repeat("\u00e4", count), false)
	}
}
