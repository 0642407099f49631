package text_test

import (
	"math"
	"slices"
	"testing"

	"quaver/api"
	"quaver/text"
	"quaver/trial"
)

func TestWriteExamples(t *testing.T) {
	for _, c := range []struct {
		a    complex128
		want string
	}{
		{1, "(0x1p0,0x0p0)"},
		{complex(-0.75, infinity), "(-0x3p-2,inf)"},
		{complex(6, minus), "(0x3p1,-0x0p0)"},
		{5e-324, "(0x1p-1074,0x0p0)"},
		{complex(trial.Greatest, -trial.Greatest), "(0x1fffffffffffffp971,-0x1fffffffffffffp971)"},
		{complex(nan, -infinity), "(nan,-inf)"},
		{complex(minus, nan), "(-0x0p0,nan)"},
		{complex(trial.LeastNormal, -0.1), "(0x1p-1022,-0xccccccccccccdp-55)"},
		{complex(1<<53, 10), "(0x1p53,0x5p1)"},
	} {
		if got := text.Write(c.a); got != c.want {
			t.Errorf("P27.1: Write(%v) = %s, want %s", c.a, got, c.want)
		}
	}
	// All NaNs are one, whatever their bits.
	for _, bits := range []uint64{0x7ff8000000000001, 0x7ff0000000000001, 0xfff8000000000000, 0xffffffffffffffff} {
		x := math.Float64frombits(bits)
		if got := text.Write(complex(x, x)); got != "(nan,nan)" {
			t.Errorf("P27.1: Write of the NaN %x: %s", bits, got)
		}
	}
}

func TestWrite(t *testing.T) {
	mix := trial.Mixer(530)
	list := trial.Floats()
	for e := -1074; e <= 1023; e++ {
		list = append(list, math.Ldexp(1, e), -math.Ldexp(3, max(e-1, -1074)))
	}
	for range 20000 {
		list = append(list, mix.Float())
	}
	for i, x := range list {
		a := complex(x, list[(i*7+1)%len(list)])
		s := text.Write(a)
		if s != numberText(a) {
			t.Fatalf("P27.1: Write(%x) = %s, want %s", a, s, numberText(a))
		}
		if b, at, e := text.Read(s); e != api.OK || at != 0 || !trial.AlikeNumber(a, b) {
			t.Fatalf("P27.4: Read(%s) = %x, %d, %d, want %x", s, b, at, e, a)
		}
	}
}

func TestFilterExamples(t *testing.T) {
	for _, c := range []struct {
		f    api.Zpk
		want string
	}{
		{api.Zpk{Zeros: []complex128{-1}, Poles: []complex128{0.5}, Gain: 2}, "zpk (0x1p1,0x0p0) | (-0x1p0,0x0p0) | (0x1p-1,0x0p0)"},
		{api.Zpk{Gain: 2}, "zpk (0x1p1,0x0p0) | |"},
		{api.Zpk{Zeros: []complex128{}, Poles: []complex128{1i, complex(minus, -1)}, Gain: 0}, "zpk (0x0p0,0x0p0) | | (0x0p0,0x1p0) (-0x0p0,-0x1p0)"},
		{api.Zpk{Zeros: []complex128{3, 3, 5}, Gain: 1}, "zpk (0x1p0,0x0p0) | (0x3p0,0x0p0) (0x3p0,0x0p0) (0x5p0,0x0p0) |"},
	} {
		if got, e := text.Zpk(c.f); e != api.OK || got != c.want {
			t.Errorf("P27.2: Zpk(%v) = %s, %d, want %s", c.f, got, e, c.want)
		}
	}
	one := "(0x1p0,0x0p0)"
	for _, c := range []struct {
		f    api.Filter
		want string
	}{
		{api.Filter{Gain: 1}, "filter " + one},
		{api.Filter{Gain: 1, Sections: []api.Section{{B0: 3, B1: 5, B2: 7, A1: 9, A2: 11}, {}}}, "filter " + one + " | (0x3p0,0x0p0) (0x5p0,0x0p0) (0x7p0,0x0p0) (0x9p0,0x0p0) (0xbp0,0x0p0) | (0x0p0,0x0p0) (0x0p0,0x0p0) (0x0p0,0x0p0) (0x0p0,0x0p0) (0x0p0,0x0p0)"},
	} {
		if got, e := text.Filter(c.f); e != api.OK || got != c.want {
			t.Errorf("P27.2: Filter(%v) = %s, %d, want %s", c.f, got, e, c.want)
		}
	}
}

func TestFiltersBothWays(t *testing.T) {
	mix := trial.Mixer(531)
	for zeros := range 25 {
		for _, poles := range []int{0, 1, 2, 24 - zeros, 24} {
			f := design(&mix, zeros, poles)
			s, e := text.Zpk(f)
			if e != api.OK || s != zpkText(f) {
				t.Fatalf("P27.2: Zpk(%v) = %s, %d", f, s, e)
			}
			g, at, e := text.ReadZpk(s)
			if e != api.OK || at != 0 || !trial.AlikeNumber(g.Gain, f.Gain) || !trial.AlikeNumbers(g.Zeros, f.Zeros) || !trial.AlikeNumbers(g.Poles, f.Poles) {
				t.Fatalf("P27.4: ReadZpk(%s) = %v, %d, %d, want %v", s, g, at, e, f)
			}
		}
	}
	for n := range 17 {
		f := sections(&mix, n)
		s, e := text.Filter(f)
		if e != api.OK || s != filterText(f) {
			t.Fatalf("P27.2: Filter(%v) = %s, %d", f, s, e)
		}
		g, at, e := text.ReadFilter(s)
		if e != api.OK || at != 0 || !trial.AlikeNumber(g.Gain, f.Gain) || !slices.EqualFunc(g.Sections, f.Sections, trial.AlikeSection) {
			t.Fatalf("P27.4: ReadFilter(%s) = %v, %d, %d, want %v", s, g, at, e, f)
		}
	}
	// Noughts keep their signs.
	for _, a := range trial.Noughts() {
		s, _ := text.Zpk(api.Zpk{Gain: a, Zeros: []complex128{a}, Poles: []complex128{a}})
		g, _, _ := text.ReadZpk(s)
		if !trial.AlikeNumbers(append(append([]complex128{g.Gain}, g.Zeros...), g.Poles...), []complex128{a, a, a}) {
			t.Errorf("P27.4: ReadZpk(%s) = %v", s, g)
		}
	}
}

func TestWriteErrors(t *testing.T) {
	mix := trial.Mixer(532)
	refusesZpk := func(f api.Zpk, want api.Errno) {
		t.Helper()
		if s, e := text.Zpk(f); e != want || s != "" {
			t.Errorf("P27.2: Zpk(%v) = %s, %d, want the error %d", f, s, e, want)
		}
	}
	refusesFilter := func(f api.Filter, want api.Errno) {
		t.Helper()
		if s, e := text.Filter(f); e != want || s != "" {
			t.Errorf("P27.2: Filter(%v) = %s, %d, want the error %d", f, s, e, want)
		}
	}
	refusesZpk(design(&mix, 25, 0), api.ErrLong)
	refusesZpk(design(&mix, 0, 25), api.ErrLong)
	refusesFilter(sections(&mix, 17), api.ErrLong)
	for _, bad := range trial.Endless() {
		f := design(&mix, 2, 2)
		f.Gain = bad
		refusesZpk(f, api.ErrNaN)
		f = design(&mix, 2, 2)
		f.Zeros[1] = bad
		refusesZpk(f, api.ErrNaN)
		f = design(&mix, 2, 24)
		f.Poles[23] = bad
		refusesZpk(f, api.ErrNaN)
		f.Zeros = make([]complex128, 25)
		refusesZpk(f, api.ErrLong)
		g := sections(&mix, 1)
		g.Gain = bad
		refusesFilter(g, api.ErrNaN)
		for place := range 5 {
			for at := range 3 {
				g = sections(&mix, 3)
				row := trial.Row(g.Sections[at])
				row[place] = bad
				g.Sections[at] = trial.Section(row)
				refusesFilter(g, api.ErrNaN)
			}
		}
		g.Sections = append(g.Sections, make([]api.Section, 14)...)
		refusesFilter(g, api.ErrLong)
	}
}
