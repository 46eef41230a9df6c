package filter

import "deadwax/api"

// moment is an input of a curve and the output that belongs to it.
type moment struct {
	x, y int64
}

// ring keeps as many moments as a curve can have coefficients of a kind. Those before the first one are zeros: they add nothing to a correction, as if they were left out.
type ring struct {
	kept [api.MaxTaps]moment
	next int
}

func (r *ring) remember(m moment) {
	r.kept[r.next] = m
	r.next = (r.next + 1) % len(r.kept)
}

// ago returns the moment after which i others were remembered.
func (r *ring) ago(i int) moment {
	return r.kept[(r.next+len(r.kept)-1-i)%len(r.kept)]
}

// state is a curve and what it remembers.
type state struct {
	ring
	curve api.Curve
}

func (s *state) correction() int64 {
	sum := int64(0)
	for i, weight := range s.curve.Feed {
		sum += weight * s.ago(i).x
	}
	for i, weight := range s.curve.Back {
		sum += weight * s.ago(i).y
	}
	return quotient(sum, s.curve.Share)
}

// direction is a way through a curve: what is added to a number, and the moment that is remembered.
type direction interface {
	turn(from, correction int64) (int64, moment)
}

// applying goes from inputs to outputs.
type applying struct{}

func (applying) turn(x, correction int64) (int64, moment) {
	y := x + correction
	return y, moment{x, y}
}

// undoing goes from outputs to inputs.
type undoing struct{}

func (undoing) turn(y, correction int64) (int64, moment) {
	x := y - correction
	return x, moment{x, y}
}

// step changes the next number of a signal.
type step func(int64) int64

// running returns the step of a curve that has not begun yet.
func running[D direction](c api.Curve) step {
	var d D
	s := state{curve: c}
	return func(from int64) int64 {
		to, m := d.turn(from, s.correction())
		s.remember(m)
		return to
	}
}

// through sends numbers through steps, or returns ErrOver if a result of a step is greater than most. It ends at the first such result, because what follows from it may have any size.
func through(steps []step, x []int64, most int64) ([]int64, api.Errno) {
	y := make([]int64, 0, len(x))
	for _, v := range x {
		for _, next := range steps {
			v = next(v)
			if !within(v, most) {
				return nil, api.ErrOver
			}
		}
		y = append(y, v)
	}
	return y, api.OK
}

// quotient rounds down, also below 0, where Go rounds up.
func quotient(a, b int64) int64 {
	q := a / b
	if a%b < 0 {
		q--
	}
	return q
}
