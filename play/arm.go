package play

import (
	"iter"

	"deadwax/api"
)

// bend is how much a groove is bent at a sample.
type bend struct {
	at     int
	amount int64
}

// bends yields the bends of a groove: at all its samples but the first and the last one.
func bends(l []api.Point) iter.Seq[bend] {
	return func(yield func(bend) bool) {
		for i := 1; i < len(l)-1; i++ {
			b := bend{at: i, amount: middle(l[i-1]) + middle(l[i+1]) - 2*middle(l[i])}
			if !yield(b) {
				return
			}
		}
	}
}

// middle returns where the middle of a groove is, twice.
func middle(p api.Point) int64 { return p.In + p.Out }

// best returns the best arm for a groove of 3 points at least.
func best(l []api.Point) api.Arm {
	amount := func(b bend) int64 { return b.amount }
	low, high := least(bends(l), amount), greatest(bends(l), amount)
	hold := (high - low + 1) / 2
	return api.Arm{Hold: hold, Skate: high - hold}
}
