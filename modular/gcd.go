package modular

// Gcd is the greatest common divisor of two polynomials, the coefficient of z^0 first, whose last coefficients are not 0; its own last one is 1. It writes p and q over. One of them has a place.
func (f Field) Gcd(p, q []uint64) []uint64 {
	for len(q) > 0 {
		f.monic(q)
		p, q = q, f.rest(p, q)
	}
	f.monic(p)
	return p
}

// monic makes p's last coefficient 1.
func (f Field) monic(p []uint64) {
	last := p[len(p)-1]
	if last == 1 {
		return
	}
	inverse := f.Inverse(last)
	for i := range p {
		p[i] = f.Mul(p[i], inverse)
	}
}

// rest is what is left of p, divided by q, whose last coefficient is 1.
func (f Field) rest(p, q []uint64) []uint64 {
	last := len(q) - 1
	for len(p) > last {
		shift := len(p) - 1 - last
		times := p[len(p)-1]
		p = p[:len(p)-1]
		for i, c := range q[:last] {
			p[shift+i] = f.Sub(p[shift+i], f.Mul(times, c))
		}
		p = trim(p)
	}
	return p
}

// trim leaves noughts at the end out.
func trim(p []uint64) []uint64 {
	for len(p) > 0 && p[len(p)-1] == 0 {
		p = p[:len(p)-1]
	}
	return p
}
