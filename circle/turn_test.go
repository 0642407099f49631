package circle_test

import (
	"math"
	"math/big"
	"testing"

	"quaver/api"
	"quaver/circle"
	"quaver/cplx"
	"quaver/trial"
)

const (
	whole   = 1 << api.MaxTurn
	quarter = whole / 4
)

// wide is a number of many bits.
func wide(x float64) *big.Float { return new(big.Float).SetPrec(320).SetFloat64(x) }

// arctan is the angle whose tangent is 1/n, by its series.
func arctan(n float64) *big.Float {
	sum, power, square := wide(0), new(big.Float).Quo(wide(1), wide(n)), wide(n*n)
	for i := 1.0; power.MantExp(nil) > -330; i += 2 {
		term := new(big.Float).Quo(power, wide(i))
		if int(i)%4 == 3 {
			term.Neg(term)
		}
		sum.Add(sum, term)
		power.Quo(power, square)
	}
	return sum
}

// step is the angle of one of 2^MaxTurn parts of a turn, in which a half turn is 16 arctan(1/5) - 4 arctan(1/239).
func step() *big.Float {
	pi := wide(16)
	pi.Mul(pi, arctan(5))
	rest := wide(4)
	pi.Sub(pi, rest.Mul(rest, arctan(239)))
	return pi.Quo(pi, wide(whole/2))
}

// series is cos(w) and sin(w), by the powers of w.
func series(w *big.Float) (cos, sin *big.Float) {
	sums := [2]*big.Float{wide(0), wide(0)}
	term := wide(1)
	for i := 0; term.Sign() != 0 && term.MantExp(nil) > -300; i++ {
		if i%4 < 2 {
			sums[i%2].Add(sums[i%2], term)
		} else {
			sums[i%2].Sub(sums[i%2], term)
		}
		term.Mul(term, w)
		term.Quo(term, wide(float64(i+1)))
	}
	return sums[0], sums[1]
}

// rounded is the float64 nearest to x, which a midst between two floats does not come near to.
func rounded(t *testing.T, x *big.Float) float64 {
	t.Helper()
	f, _ := x.Float64()
	for _, way := range []float64{math.Inf(1), math.Inf(-1)} {
		midst := wide(f)
		midst.Add(midst, wide(math.Nextafter(f, way)))
		midst.Quo(midst, wide(2))
		if off := midst.Sub(midst, x); off.MantExp(nil) < -110 {
			t.Errorf("P7.7: a part lies within 2^%d of the midst", off.MantExp(nil))
		}
	}
	return f
}

// axes: the points whose parts are 0, 1 and -1.
func axes() []complex128 { return []complex128{1, complex(0, 1), -1, complex(0, -1)} }

// byTheSeries is the point at so many of 2^MaxTurn parts of a turn.
func byTheSeries(t *testing.T, j int, step *big.Float) complex128 {
	t.Helper()
	if j%quarter == 0 {
		return axes()[j/quarter]
	}
	cos, sin := series(new(big.Float).Mul(step, wide(float64(j))))
	return complex(rounded(t, cos), rounded(t, sin))
}

func TestTurnExamples(t *testing.T) {
	half := math.Float64frombits(0x3fe6a09e667f3bcd)
	for _, c := range []struct {
		j, k int
		want complex128
	}{
		{0, 0, 1}, {1, 0, 1}, {-1, 0, 1}, {0, 1, 1}, {1, 1, -1}, {-1, 1, -1}, {0, 2, 1}, {1, 2, complex(0, 1)}, {2, 2, -1}, {3, 2, complex(0, -1)}, {-1, 2, complex(0, -1)}, {4, 2, 1},
		{1, 3, complex(half, half)}, {2, 3, complex(0, 1)}, {3, 3, complex(-half, half)}, {4, 3, -1}, {5, 3, complex(-half, -half)}, {7, 3, complex(half, -half)}, {-1, 3, complex(half, -half)},
		{1, 4, complex(math.Float64frombits(0x3fed906bcf328d46), math.Float64frombits(0x3fd87de2a6aea963))},
		{1<<30 + 1, 2, complex(0, 1)}, {-1<<30 - 1, 2, complex(0, -1)}, {math.MinInt, 0, 1}, {math.MinInt, 16, 1}, {math.MinInt + 1, 3, complex(half, half)}, {math.MaxInt, 0, 1}, {math.MaxInt, 1, -1}, {math.MaxInt, 2, complex(0, -1)}, {math.MaxInt, 3, complex(half, -half)},
		{1 << 14, 16, complex(0, 1)}, {1 << 15, 16, -1}, {3 << 14, 16, complex(0, -1)}, {1 << 13, 16, complex(half, half)},
	} {
		z, e := circle.Turn(c.j, c.k)
		if e != api.OK {
			t.Errorf("P7.2: Turn(%d, %d): %d", c.j, c.k, e)
		}
		trial.Is(t, z, c.want, "P7.2: Turn(%d, %d)", c.j, c.k)
	}
}

func TestTurnsAreNearest(t *testing.T) {
	list, e := circle.Turns(api.MaxTurn)
	if len(list) != whole || e != api.OK {
		t.Fatalf("P7.3: Turns(MaxTurn): %d points, %d", len(list), e)
	}
	angle := step()
	for j := range quarter + 1 {
		want := byTheSeries(t, j, angle)
		x, y := real(want), imag(want)
		trial.Is(t, list[j], want, "P7.2: point %d", j)
		// The other quarters stand mirrored at the lines; a nought that is subtracted from stays +0.
		trial.Is(t, list[2*quarter-j], complex(0-x, y), "P7.2: point %d", 2*quarter-j)
		trial.Is(t, list[2*quarter+j], complex(0-x, 0-y), "P7.2: point %d", 2*quarter+j)
		trial.Is(t, list[(whole-j)%whole], complex(x, 0-y), "P7.2: point %d", whole-j)
	}
	for j := 0; j < whole; j += 509 { // and without mirrors
		trial.Is(t, list[j], byTheSeries(t, j, angle), "P7.2: point %d", j)
	}
}

// some is places of 2^k parts of a turn: all of a few, some of many.
func some(k int) []int {
	var list []int
	for j := 0; j < 1<<k; j += 1<<k/64 + 1 {
		list = append(list, j)
	}
	return append(list, 1<<k-1, 1<<k/2, 1<<k/4, 1<<k/8)
}

func TestTurnAndTurns(t *testing.T) {
	finest, _ := circle.Turns(api.MaxTurn)
	for k := range api.MaxTurn + 1 {
		list, e := circle.Turns(k)
		if len(list) != 1<<k || e != api.OK {
			t.Fatalf("P7.3: Turns(%d): %d points, %d", k, len(list), e)
		}
		for j, z := range list {
			trial.Is(t, z, finest[j<<(api.MaxTurn-k)], "P7.3: Turns(%d) at %d", k, j)
		}
		for _, j := range some(k) {
			for _, same := range []int{j, j + 1<<k, j - 1<<k, j - 5<<k, j + 77<<k, j + math.MinInt, j - 1<<k + math.MaxInt + 1} {
				z, e := circle.Turn(same, k)
				if e != api.OK {
					t.Errorf("P7.2: Turn(%d, %d): %d", same, k, e)
				}
				trial.Is(t, z, list[j], "P7.2: Turn(%d, %d)", same, k)
			}
		}
	}
}

func TestTurnsOfWrongParts(t *testing.T) {
	for _, k := range []int{-1, -2, -64, api.MaxTurn + 1, 63, 64, math.MaxInt, math.MinInt} {
		for _, j := range []int{0, 1, -1, math.MaxInt, math.MinInt} {
			z, e := circle.Turn(j, k)
			if e != api.ErrArg {
				t.Errorf("P7.2: Turn(%d, %d): %d, want ErrArg", j, k, e)
			}
			trial.Is(t, z, 0, "P7.2: Turn(%d, %d)", j, k)
		}
		if list, e := circle.Turns(k); len(list) != 0 || e != api.ErrArg {
			t.Errorf("P7.3: Turns(%d): %d points, %d, want ErrArg", k, len(list), e)
		}
	}
}

// turn is Turn, which must answer.
func turn(t *testing.T, j, k int) complex128 {
	t.Helper()
	z, e := circle.Turn(j, k)
	if e != api.OK {
		t.Fatalf("P7.2: Turn(%d, %d): %d", j, k, e)
	}
	return z
}

func TestWhatFollowsOfTurns(t *testing.T) {
	for k := range api.MaxTurn + 1 {
		for _, j := range some(k) {
			x := turn(t, j, k)
			if back := turn(t, -j, k); back != cplx.Conj(x) {
				t.Errorf("P7.6: Turn(%d, %d) = %v, beside %v", -j, k, back, x)
			}
			if k >= 2 {
				if on := turn(t, j+1<<(k-2), k); on != cplx.Turn(x) {
					t.Errorf("P7.6: Turn(%d, %d) = %v, beside %v", j+1<<(k-2), k, on, x)
				}
			}
			if k < api.MaxTurn {
				trial.Is(t, turn(t, 2*j, k+1), x, "P7.6: Turn(%d, %d)", 2*j, k+1)
			}
		}
	}
}

func TestTurnsMemory(t *testing.T) {
	for _, k := range []int{0, 1, 2, 3, 6} {
		turns := func([][]complex128) [][]complex128 {
			list, _ := circle.Turns(k)
			return [][]complex128{list}
		}
		if fault := trial.TouchedLists(turns); fault != "" {
			t.Errorf("Memory: Turns(%d): %s", k, fault)
		}
		if fault := trial.BesideLists(turns); fault != "" {
			t.Errorf("P2: Turns(%d): %s", k, fault)
		}
	}
}
