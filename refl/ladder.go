package refl

import (
	"math/big"

	"quaver/exact"
	"quaver/ring"
)

// ladder is a way down. The last numbers of its rungs are minors of the matrix of Schur and Cohn, and the products of one step have that of the rung over it in common: without it the numbers would be twice as long with each step.
type ladder struct {
	rung       rung
	over, here *big.Int // such minors of the rung over this one and of this one
}

// start is the ladder from p, which is not nought, on.
func start(p ring.Poly) ladder {
	list := read(p)
	one, turn := big.NewInt(1), list[len(list)-1].Conj()
	if turn.Im.Sign() == 0 && turn.Re.Sign() > 0 {
		return ladder{list, one, one}
	}
	for i, c := range list {
		list[i] = c.Mul(turn)
	}
	top := rung(list)
	return ladder{top, top.last(), one}
}

// down is the reflection numbers of p, which is not nought; false, if one has the magnitude 1.
func down(p ring.Poly) ([]exact.Complex, bool) {
	list := make([]exact.Complex, len(p)-1)
	l := start(p)
	for i := len(list) - 1; i >= 0; i-- {
		if l.rung.gap().Sign() == 0 {
			return nil, false
		}
		list[i] = l.rung.at(0)
		l.shorten(list[i])
		l.step()
	}
	return list, true
}

// step goes to the rung under this one, whose number's magnitude is not 1.
func (l *ladder) step() {
	if l.rung[0].Nought() {
		l.rung = l.rung[1:]
		return
	}
	next := l.rung.under()
	short, whole := next.cut(l.over)
	if !whole {
		short = next.short()
	}
	l.rung, l.over, l.here = short, l.here, short.last()
}

// shorten leaves out what the rung's numbers have in common, if that is long, as it may be where coefficients are noughts. The rung's number k, in lowest terms, tells how long it can be.
func (l *ladder) shorten(k exact.Complex) {
	if k.Nought() {
		return
	}
	shared := new(big.Int).Quo(l.rung.last(), line(k).last())
	if 4*shared.BitLen() < l.rung.last().BitLen() {
		return
	}
	shared = l.rung.shared(shared)
	l.rung, _ = l.rung.cut(shared)
	l.here = new(big.Int).Quo(l.here, exact.Divisor(l.here, shared))
}

// up is the polynomial that has these reflection numbers.
func up(list []exact.Complex) ring.Poly {
	r := rung(read(ring.Poly{exact.Real(1)}))
	for _, k := range list {
		r = r.over(k).short()
	}
	return r.poly()
}
