package draws

import "garment/api"

// step takes a state d to d * times + plus. Any number of calls of Next is one step.
type step struct {
	times, plus api.Draw
}

// single returns the step of one call of Next.
func single() step {
	return step{times: factor, plus: summand}
}

// apply returns the state after the step.
func (s step) apply(d api.Draw) api.Draw {
	return d*s.times + s.plus
}

// twice returns the step that does what s does two times.
func (s step) twice() step {
	return step{times: s.times * s.times, plus: s.apply(s.plus)}
}

// Skip returns the state after k calls of Next.
func Skip(d api.Draw, k int) api.Draw {
	// The binary digits of k say which of the steps of 1, 2, 4, .. calls make k; their order does not matter.
	for s := single(); k > 0; k /= 2 {
		if k%2 == 1 {
			d = s.apply(d)
		}
		s = s.twice()
	}
	return d
}
