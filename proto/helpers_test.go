package proto_test

import (
	"math"
	"testing"

	"quaver/api"
	"quaver/proto"
	"quaver/trial"
)

const (
	least    = trial.Least
	greatest = trial.Greatest
)

var (
	minus    = math.Copysign(0, -1)
	infinity = math.Inf(1)
	nan      = math.NaN()
)

// orders are all orders that there are.
func orders() []int { return []int{1, 2, 4, 8, 16} }

// list is these numbers.
func list(numbers ...complex128) []complex128 { return numbers }

// same: number by number, bit by bit.
func same(f, g api.Zpk) bool {
	return trial.AlikeNumbers(f.Zeros, g.Zeros) && trial.AlikeNumbers(f.Poles, g.Poles) && trial.AlikeNumber(f.Gain, g.Gain)
}

// is looks whether a filter was answered, and which.
func is(t *testing.T, name string, got api.Zpk, e api.Errno, want api.Zpk) {
	t.Helper()
	if e != api.OK || !same(got, want) {
		t.Errorf("%s = %x, %d, want %x", name, got, e, want)
	}
}

// fails looks whether an error was answered, and nothing beside it.
func fails(t *testing.T, name string, got api.Zpk, e, want api.Errno) {
	t.Helper()
	if e != want || !same(got, api.Zpk{}) {
		t.Errorf("%s = %v, %d, want %d", name, got, e, want)
	}
}

// pass is Low or High.
type pass func(order int, t api.Rat) (api.Zpk, api.Errno)

func passes() map[string]pass {
	return map[string]pass{"Low": proto.Low, "High": proto.High}
}

// poles are those of an order, which there is.
func poles(t *testing.T, order int) []complex128 {
	t.Helper()
	p, e := proto.Poles(order)
	if e != api.OK || len(p) != order {
		t.Fatalf("P24.1: Poles(%d): %d numbers, %d", order, len(p), e)
	}
	return p
}

// whole is the number a, reckoned by another road.
func whole(a int64) trial.Complex { return trial.Fraction(a, 0, 1) }

// rational is the number that r is.
func rational(r api.Rat) trial.Complex {
	return trial.ValueGauss(api.Gauss{Re: r, Im: trial.Frac(0, 1)})
}
