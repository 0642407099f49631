package cplx_test

import (
	"math"

	"quaver/trial"
)

const (
	least       = trial.Least
	leastNormal = trial.LeastNormal
	greatest    = trial.Greatest
)

var (
	minus    = math.Copysign(0, -1)
	infinity = math.Inf(1)
	nan      = math.NaN()
)

// mixer makes the same numbers each time.
type mixer struct{ trial.Mixer }

// part is a float of an edge, or of any kind.
func (m *mixer) part() float64 {
	if list := edges(); m.Below(4) == 0 {
		return list[m.Below(len(list))]
	}
	return m.Float()
}

func (m *mixer) number() complex128 { return complex(m.part(), m.part()) }

// edges: numbers of every class and both signs, those at which the roads of the calls part among them.
func edges() []float64 {
	list := trial.Floats()
	for _, x := range []float64{0x1p-950, math.Nextafter(0x1p-900, 0), 0x1p-900, math.Nextafter(0x1p-900, 1), math.Nextafter(0x1p1000, 0), 0x1p1000, math.Nextafter(0x1p1000, infinity)} {
		list = append(list, x, -x)
	}
	return list
}

// corners: every pair of edges.
func corners() []complex128 {
	var list []complex128
	for _, re := range edges() {
		for _, im := range edges() {
			list = append(list, complex(re, im))
		}
	}
	return list
}
