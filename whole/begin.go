package whole

import (
	"gambit/air"
	"gambit/earth"
	"gambit/fire"
	"gambit/gold"
	"gambit/noting"
	"gambit/rank"
	"gambit/start"
	"gambit/suit"
	"gambit/trait"
	"gambit/void"
	"gambit/water"
)

// beginners makes the array of what begins each package, each behind those that it stands on.
func beginners() [9]func(*start.Log) int {
	return [...]func(*start.Log) int{
		rank.Begin, suit.Begin, trait.Begin,
		air.Begin, earth.Begin, fire.Begin, water.Begin, void.Begin, gold.Begin,
	}
}

// Begin notes all packages in a log, closes it, and gives how many notes the log took.
func Begin(l *start.Log) int {
	taken := 0
	for _, begin := range beginners() {
		taken += begin(l)
	}
	taken += noting.In(l, 14, 1)
	l.Close()
	return taken
}
