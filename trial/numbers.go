package trial

import "math"

// Signs are x and y with all signs; noughts have both.
func Signs(x, y float64) []complex128 {
	return []complex128{complex(x, y), complex(Turned(x), y), complex(x, Turned(y)), complex(Turned(x), Turned(y))}
}

// Noughts are those of all signs.
func Noughts() []complex128 {
	return Signs(0, 0)
}

// Endless are numbers with one part, or both, that is a NaN or an infinity.
func Endless() []complex128 {
	nan, infinity := math.NaN(), math.Inf(1)
	var all []complex128
	for _, x := range []float64{nan, infinity, -infinity} {
		all = append(all, complex(x, 0), complex(1, x), complex(x, x))
	}
	return append(all, complex(nan, infinity), complex(-infinity, nan))
}

// FiniteNumbers are so many numbers of all kinds, but for those that are not finite.
func (m *Mixer) FiniteNumbers(n int) []complex128 {
	return m.Numbers(n, func() float64 {
		for {
			if x := m.Float(); Finite(x) {
				return x
			}
		}
	})
}

// Few are so many numbers of which many are the same, or conjugates, or differ in signs of noughts alone.
func (m *Mixer) Few(n int) []complex128 {
	parts := []float64{0, Turned(0), 1, -1, 2, 0.5}
	return m.Numbers(n, func() float64 { return parts[m.Below(len(parts))] })
}
