package proto_test

import (
	"math"
	"testing"

	"quaver/api"
	"quaver/circle"
	"quaver/cplx"
	"quaver/proto"
	"quaver/trial"
)

func TestPolesExamples(t *testing.T) {
	x := math.Sqrt(0.5)
	for _, c := range []struct {
		order int
		want  []complex128
	}{{1, list(-1)}, {2, list(complex(-x, x), complex(-x, -x))}} {
		if got := poles(t, c.order); !trial.AlikeNumbers(got, c.want) {
			t.Errorf("P24.1: Poles(%d) = %v, want %v", c.order, got, c.want)
		}
	}
}

func TestPolesAreTurns(t *testing.T) {
	logs := map[int]int{1: 2, 2: 3, 4: 4, 8: 5, 16: 6}
	for _, n := range orders() {
		got := poles(t, n)
		for k, p := range got {
			want, e := circle.Turn(2*k+n+1, logs[n])
			if e != api.OK || !trial.AlikeNumber(p, want) {
				t.Errorf("P24.1: Poles(%d) has %x at %d, want %x", n, p, k, want)
			}
			angle := math.Pi * float64(2*k+n+1) / float64(2*n)
			if cplx.Abs(p-complex(math.Cos(angle), math.Sin(angle))) > 1e-15 {
				t.Errorf("P24.1: Poles(%d) has %v at %d, at the angle %v", n, p, k, angle)
			}
			if mirrored := got[n-1-k]; real(p) >= 0 || mirrored != cplx.Conj(p) {
				t.Errorf("P24.1: Poles(%d) has %v at %d and %v as its conjugate", n, p, k, mirrored)
			}
		}
	}
}

func TestOtherOrders(t *testing.T) {
	there := map[int]int{1: 1, 2: 1, 4: 1, 8: 1, 16: 1}
	all := []int{math.MinInt, math.MinInt + 1, math.MaxInt, 1 << 30, 1 << 61, 1 << 62, -1 << 62, -16, -8, -4, -2, 64, 128, 1 << 16, 1<<32 + 1, 1<<32 + 2}
	for n := -3; n < 70; n++ {
		all = append(all, n)
	}
	for _, n := range all {
		if there[n] == 1 {
			continue
		}
		if got, e := proto.Poles(n); e != api.ErrArg || len(got) > 0 {
			t.Errorf("P24.1: Poles(%d): %d numbers, %d, want ErrArg", n, len(got), e)
		}
		for name, call := range passes() {
			for _, r := range []api.Rat{trial.Frac(1, 1), trial.Frac(0, 1), {}, trial.Long()[0]} {
				f, e := call(n, r)
				fails(t, "Errors: "+name+" of another order", f, e, api.ErrArg)
			}
		}
	}
}
