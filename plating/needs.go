package plating

import "deadwax/api"

// most returns on how many plates of the next kind a plate of a kind can be the parent.
func (s *Shop) most(kind int) int {
	switch kind {
	case api.PlateLacquer:
		return 1
	case api.PlateFather:
		return s.recipe.Mothers
	case api.PlateMother:
		return s.recipe.Stampers
	}
	return 0
}

// room returns how many plates can still be grown on a plate.
func (s *Shop) room(p plate) int {
	if p.Retired {
		return 0
	}
	return s.most(p.Kind) - p.Grown
}

// growthsFor returns the growths needed for n stampers under a plate, and whether so many can be there.
//
// Stampers come on the mothers that there are, as far as these have room. For the others there have to be new mothers, as few as can be, and for these in the same way new fathers.
func (s *Shop) growthsFor(root, n int) (int, bool) {
	var room [api.PlateStamper + 2]int // for plates of each kind
	for p := range s.under(root) {
		room[p.Kind+1] += s.room(p)
		if p.Kind == api.PlateStamper && !p.Retired {
			n--
		}
	}
	growths := 0
	for kind := api.PlateStamper; n > 0 && kind > api.PlateLacquer; kind-- {
		growths += n
		n = parents(n-room[kind], s.most(kind-1))
	}
	return growths, n <= 0
}

// parents returns how many new parents have room for n plates.
func parents(n, most int) int {
	if n <= 0 {
		return 0
	}
	return (n + most - 1) / most
}
