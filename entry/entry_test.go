package entry_test

import (
	"testing"

	"quaver/api"
	"quaver/entry"
	"quaver/trial"
)

func TestLeast(t *testing.T) {
	for _, c := range []struct {
		list []api.Errno
		want api.Errno
	}{
		{nil, api.OK}, {[]api.Errno{api.OK, api.OK}, api.OK}, {[]api.Errno{api.OK, api.ErrOver}, api.ErrOver}, {[]api.Errno{api.ErrOver, api.OK}, api.ErrOver},
		{[]api.Errno{api.ErrForm, api.OK, api.ErrLong, api.ErrZero}, api.ErrLong}, {[]api.Errno{api.ErrArg, api.ErrName}, api.ErrArg}, {[]api.Errno{api.ErrName, api.ErrNone}, api.ErrNone},
	} {
		if e := entry.Least(c.list...); e != c.want {
			t.Errorf("the least of %v is %d, want %d", c.list, e, c.want)
		}
	}
}

func TestDegreesUpToMost(t *testing.T) {
	one := api.Rat{Num: []uint64{1}, Den: []uint64{1}}
	p := make(api.Poly, 5)
	for i := range p {
		p[i] = api.Gauss{Re: one, Im: one}
	}
	for most, want := range []api.Errno{api.ErrLong, api.ErrLong, api.ErrLong, api.ErrLong, api.OK, api.OK} {
		e, f, g := entry.Polys(most, p), entry.Polys(most, nil, p), entry.Polys(most, p, p[:1])
		if e != want || f != want || g != want {
			t.Errorf("a polynomial of degree 4, where %d may be: %d, %d, %d, want %d", most, e, f, g, want)
		}
	}
	if e := entry.Polys(0); e != api.OK {
		t.Errorf("no polynomials: %d", e)
	}
	for most, want := range []api.Errno{api.ErrLong, api.ErrLong, api.ErrLong, api.ErrLong, api.OK} {
		if e, f := entry.Rooted(most, p), entry.Rooted(most, nil); e != want || f != api.ErrZero {
			t.Errorf("a polynomial of degree 4, where %d may be, and nought: %d, %d, want %d, ErrZero", most, e, f, want)
		}
	}
}

func TestAbove(t *testing.T) {
	for _, c := range []struct {
		r    api.Rat
		want api.Errno
	}{
		{trial.Frac(1, 1), api.OK}, {trial.Frac(1, 1<<63), api.OK}, {trial.Frac(1<<62, 3), api.OK}, {trial.Frac(0, 1), api.ErrArg}, {trial.Frac(-1, 1), api.ErrArg}, {trial.Frac(-1, 1<<63), api.ErrArg},
	} {
		if e := entry.Above(c.r); e != c.want {
			t.Errorf("Above(%v) = %d, want %d", c.r, e, c.want)
		}
	}
	// Signs are asked of numbers in form alone.
	for _, r := range trial.Wrong() {
		if e := entry.Above(r); e != api.ErrForm {
			t.Errorf("Above(%v) = %d, want ErrForm", r, e)
		}
	}
	for _, r := range trial.Long() {
		if e := entry.Above(r); e != api.ErrLong {
			t.Errorf("Above of %d limbs over %d: %d, want ErrLong", len(r.Num), len(r.Den), e)
		}
	}
}
