package shell_test

import (
	"fmt"
	"math"
	"slices"
	"testing"

	"quaver/api"
	"quaver/biquad"
	"quaver/circle"
	"quaver/shell"
	"quaver/trial"
)

func TestSections(t *testing.T) {
	play(t, shell.New(),
		says("new f "+w(2), ""), says("sections f", "0"), says("sure f", "1"), says("stable f", "1"), says("at f "+w(3), w(2)),
		says("zero f "+w(-1), "1"), says("pole f "+w(0.5), "1"), says("pole f "+w(0.25), "2"),
		says("sections f", "1 "+w(1, 1, 0, -0.75, 0.125)),
		says("stable f", "1"), says("sure f", "1"), says("at f "+w(1), w(complex(32.0/3, 0))),
		says("pole f "+w(2), "3"), says("stable f", "0"), says("sure f", "0"),
		says("tame f", ""), says("stable f", "1"), says("sure f", "1"),
		says("new g "+w(1), ""), says("pole g "+w(1), "1"), says("stable g", "0"), says("sure g", "0"),
		fails("at f "+w(0), 0, api.ErrZero), fails("at f "+w(complex(math.Copysign(0, -1), 0)), 0, api.ErrZero), fails("at f "+w(complex(nan, 0)), 0, api.ErrNaN), fails("at f "+w(complex(0, infinity)), 0, api.ErrNaN),
		// Where the answer is a quotient by nought, it is no error.
		says("new h "+w(1), ""), says("pole h "+w(0.5), "1"), says("at h "+w(1), w(2)), says("at h "+w(2), w(complex(4.0/3, 0))),
	)
	// The sections' error comes ahead of the point's, though its number is greater.
	play(t, shell.New(),
		says("new f "+w(1), ""), says("zero f "+w(0x1p600), "1"), says("sure f", "1"), says("zero f "+w(0x1p600), "2"),
		fails("sections f", 0, api.ErrOver), fails("sure f", 0, api.ErrOver), fails("at f "+w(1), 0, api.ErrOver), fails("at f "+w(0), 0, api.ErrOver), fails("at f "+w(complex(nan, 0)), 0, api.ErrOver), fails("start f", 0, api.ErrOver), fails("guard f", 0, api.ErrOver), fails("count f", 0, api.ErrNone),
		says("stable f", "1"),
	)
}

// nearCircle are poles inside the circle that with their conjugates make sections which are not stable, the farthest from 0 last.
func nearCircle() []complex128 {
	var poles []complex128
	for k := 1.0; k < 1000; k++ {
		p := complex((1-k*k/1e6)/(1+k*k/1e6), 2*k/1e3/(1+k*k/1e6))
		section, _ := biquad.Of(api.Group{Poles: []complex128{p, complex(real(p), -imag(p))}})
		if so, _ := biquad.Stable(section); !so && trial.Exactly(p).Norm().Cmp(trial.Up(0)) < 0 {
			poles = append(poles, p)
		}
	}
	slices.SortFunc(poles, func(p, q complex128) int { return trial.Exactly(p).Norm().Cmp(trial.Exactly(q).Norm()) })
	return poles
}

func TestSureAsItIsRounded(t *testing.T) {
	poles := nearCircle()
	p, q := poles[0], poles[len(poles)-1]
	turned := complex(real(p), -imag(p))
	if side, _ := circle.On(p); side != -1 || p == q {
		t.Fatalf("the poles %v and %v", p, q)
	}
	play(t, shell.New(), says("new f "+w(1), ""), says("pole f "+w(p), "1"), says("pole f "+w(turned), "2"), says("stable f", "1"), says("sure f", "0"))
	// One such section among others is enough, the first one or another: alone the pole that lies farther out makes a stable one.
	play(t, shell.New(), says("low f 4 1/1", ""), says("sure f", "1"), says("pole f "+w(p), "5"), says("pole f "+w(turned), "6"), says("stable f", "1"), says("sure f", "0"))
	play(t, shell.New(),
		says("new f "+w(1), ""), says("pole f "+w(q), "1"), says("sure f", "1"), says("pole f "+w(p), "2"), says("sure f", "1"), says("sections f", "2 "+w(1, 0, 0, -q, 0)+" "+w(1, 0, 0, -p, 0)),
		says("pole f "+w(turned), "3"), says("sections f", "2 "+w(1, 0, 0, -q, 0)+" "+w(1, 0, 0, complex(-2*real(p), 0), 1)), says("stable f", "1"), says("sure f", "0"),
	)
}

func TestMoreSectionsThanThereMayBe(t *testing.T) {
	s := shell.New()
	play(t, s, says("new f "+w(1), ""))
	for i := range 16 {
		play(t, s, says("pole f "+w(complex(0, float64(1+i)/32)), fmt.Sprint(i+1)))
	}
	play(t, s, says("sure f", "1"), says("start f", ""), says("push f "+w(1), w(1)), says("pole f "+w(0.75i), "17"), says("stable f", "1"))
	for _, line := range []string{"sections f", "sure f", "at f " + w(1), "at f " + w(0), "start f", "guard f"} {
		play(t, s, fails(line, 0, api.ErrLong))
	}
	play(t, s, fails("count f", 0, api.ErrNone))
}

func TestStreams(t *testing.T) {
	tiny := 0x1p-1030
	play(t, shell.New(),
		says("new f "+w(1), ""), says("pole f "+w(0.5), "1"), fails("push f "+w(1), 0, api.ErrNone), fails("count f", 0, api.ErrNone),
		says("start f", ""), says("count f", "0"), says("push f "+w(1, 0, 0), w(1, 0.5, 0.25)), says("count f", "3"), says("push f "+w(0), w(0.125)), says("count f", "4"),
		// Asked or written otherwise, the stream goes on.
		says("show f", w(1)+" zeros poles "+w(0.5)), says("stable f", "1"), says("at f "+w(1), w(2)), says("over g f", ""), says("series h f g", ""), says("push f "+w(0), w(0.0625)), says("count f", "5"),
		// Without a guard nothing is changed.
		says("start f", ""), says("count f", "0"), says("push f "+w(complex(tiny, 0)), w(complex(tiny, 0))), says("push f "+w(trial.Greatest, trial.Greatest), w(trial.Greatest, complex(infinity, 0))), says("push f "+w(complex(infinity, 0)), w(complex(nan, nan))),
		says("guard f", ""), says("count f", "0"), says("push f "+w(complex(tiny, 0)), w(0)), says("push f "+w(trial.Greatest, trial.Greatest), w(trial.Greatest, trial.Greatest)), says("push f "+w(complex(infinity, 0)), w(0)), says("count f", "4"),
		says("start f", ""), says("push f "+w(complex(tiny, 0)), w(complex(tiny, 0))),
		says("drop f", ""), fails("push f "+w(1), 5, api.ErrName), says("new f "+w(1), ""), fails("push f "+w(1), 0, api.ErrNone),
	)
}

func TestADesignEndsTheStream(t *testing.T) {
	for _, line := range []string{"new f " + w(1), "low f 1 1/1", "high f 1 1/1", "series f f g", "series f g g", "over f f", "over f g", "tame f", "canon f", "zero f " + w(1), "pole f " + w(0.5)} {
		s := shell.New()
		play(t, s, says("new f "+w(1), ""), says("new g "+w(1), ""), says("start f", ""), says("guard g", ""), says("push f "+w(1), w(1)), says("push g "+w(2, 3), w(2, 3)))
		if got := s.Line(line); got.E != api.OK {
			t.Errorf("P28.2: %q: %v", line, got)
		}
		play(t, s, fails("count f", 0, api.ErrNone), fails("push f "+w(1), 0, api.ErrNone), says("count g", "2"), says("push g "+w(1), w(1)))
	}
	// What only asks ends none.
	for _, line := range []string{"show f", "stable f", "sections f", "sure f", "at f " + w(1), "names", "count f", "drop g", "new g " + w(1), "over g f", "series g f f"} {
		s := shell.New()
		play(t, s, says("new f "+w(1), ""), says("pole f "+w(0.5), "1"), says("new g "+w(1), ""), says("start f", ""), says("push f "+w(1), w(1)))
		if got := s.Line(line); got.E != api.OK {
			t.Errorf("P28.2: %q: %v", line, got)
		}
		play(t, s, says("count f", "1"), says("push f "+w(0), w(0.5)))
	}
}
