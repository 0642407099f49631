package shell_test

import (
	"fmt"
	"strings"
	"testing"

	"quaver/api"
	"quaver/shell"
)

func TestDesigns(t *testing.T) {
	play(t, shell.New(),
		says("new f "+w(2), ""), says("show f", w(2)+" zeros poles"),
		says("zero f "+w(-1), "1"), says("pole f "+w(0.5), "1"), says("pole f "+w(0.25), "2"), says("zero f "+w(1i), "2"), says("zero f "+w(-1), "3"),
		says("show f", w(2)+" zeros "+w(-1, 1i, -1)+" poles "+w(0.5, 0.25)),
		says("over g f", ""), says("show g", w(0.5)+" zeros "+w(0.5, 0.25)+" poles "+w(-1, 1i, -1)),
		says("series h f g", ""), says("show h", w(1)+" zeros "+w(-1, 1i, -1, 0.5, 0.25)+" poles "+w(0.5, 0.25, -1, 1i, -1)),
		says("canon h", ""), says("show h", w(1)+" zeros poles"),
		says("canon f", ""), says("show f", w(2)+" zeros "+w(-1, -1, 1i)+" poles "+w(0.25, 0.5)),
		says("pole h "+w(2i), "1"), says("pole h "+w(0.5), "2"), says("tame h", ""), says("show h", w(1)+" zeros poles "+w(0.5i, 0.5)),
		says("new g "+w(3), ""), says("show g", w(3)+" zeros poles"),
		// A name may stand on both sides.
		says("zero g "+w(2), "1"), says("over g g", ""), says("show g", w(1.0/3)+" zeros poles "+w(2)),
		says("series g g g", ""), says("show g", w(1.0/9)+" zeros poles "+w(2, 2)),
		says("series g f g", ""), says("show g", w(2.0/9)+" zeros "+w(-1, -1, 1i)+" poles "+w(0.25, 0.5, 2, 2)),
		says("names", "f g h"), says("drop g", ""), says("names", "f h"), fails("show g", 5, api.ErrName), fails("drop g", 5, api.ErrName),
		says("new a "+w(complex(0.1, -0.2)), ""), says("names", "a f h"), says("show a", w(complex(0.1, -0.2))+" zeros poles"),
	)
}

func TestDesignErrors(t *testing.T) {
	s := shell.New()
	play(t, s,
		fails("new f "+w(complex(infinity, 0)), 0, api.ErrNaN),
		fails("new f "+w(complex(0, nan)), 0, api.ErrNaN),
		says("names", ""),
		says("new f "+w(0), ""),
		fails("over g f", 0, api.ErrZero), fails("over f f", 0, api.ErrZero),
		fails("zero f "+w(complex(nan, 0)), 0, api.ErrNaN), fails("pole f "+w(complex(0, infinity)), 0, api.ErrNaN),
		fails("new f "+w(complex(nan, 0)), 0, api.ErrNaN),
		says("show f", w(0)+" zeros poles"),
		says("new a "+w(0x1p600), ""), fails("series b a a", 0, api.ErrOver), fails("series a a a", 0, api.ErrOver),
		says("new b "+w(0x1p-1074), ""), fails("over c b", 0, api.ErrOver),
		says("names", "a b f"),
	)
	// 24 zeros and 24 poles, and no more.
	for i := range 24 {
		n := fmt.Sprint(i + 1)
		play(t, s, says("zero f "+w(complex(float64(i), 0)), n), says("pole f "+w(0.5), n))
	}
	shown := s.Line("show f").Text
	play(t, s,
		fails("zero f "+w(1), 0, api.ErrLong), fails("pole f "+w(1), 0, api.ErrLong), fails("zero f "+w(complex(nan, 0)), 0, api.ErrLong),
		says("zero a "+w(1), "1"), fails("series c f a", 0, api.ErrLong), fails("series c f f", 0, api.ErrLong), fails("series f f f", 0, api.ErrLong),
		says("show f", shown), says("names", "a b f"),
	)
}

// fill is a shell with 64 names, of which f is started.
func fill(t *testing.T) *shell.Shell {
	s := shell.New()
	play(t, s, says("new f "+w(1), ""), says("start f", ""), says("push f "+w(1), w(1)))
	for i := range 63 {
		play(t, s, says("new x"+strings.Repeat("a", i/8)+string(rune('b'+i%8))+" "+w(complex(float64(i), 0)), ""))
	}
	if n := len(strings.Fields(s.Line("names").Text)); n != 64 {
		t.Fatalf("%d names", n)
	}
	return s
}

func TestFullOfNames(t *testing.T) {
	s := fill(t)
	before := told(s)
	play(t, s,
		fails("new g "+w(1), 0, api.ErrFull), fails("low g 1 1/1", 0, api.ErrFull), fails("high g 1 1/1", 0, api.ErrFull), fails("series g f f", 0, api.ErrFull), fails("over g f", 0, api.ErrFull),
		// The layer's error comes first, and the words ahead of both.
		fails("new g "+w(complex(infinity, 0)), 0, api.ErrNaN), fails("low g 3 1/1", 0, api.ErrArg), fails("high g 1 0/1", 0, api.ErrArg), fails("over g xb", 0, api.ErrZero), fails("series g f g", 11, api.ErrName), fails("new g 1", 6, api.ErrText), fails("show g", 5, api.ErrName),
	)
	if told(s) != before {
		t.Error("P28.3: an error has changed something")
	}
	// A name that stands for something is not a new one.
	play(t, s, says("new xb "+w(5), ""), says("low xc 1 1/1", ""), says("high xd 1 1/1", ""), says("series xe f f", ""), says("over xf f", ""), says("zero f "+w(1), "1"), says("tame f", ""), says("canon f", ""))
	play(t, s, fails("new g "+w(1), 0, api.ErrFull), says("drop xb", ""), says("new g "+w(1), ""), fails("new h "+w(1), 0, api.ErrFull), says("drop g", ""), says("over g f", ""), fails("low h 1 1/1", 0, api.ErrFull))
}

func TestErrorsChangeNothing(t *testing.T) {
	s := shell.New()
	play(t, s,
		says("new f "+w(0), ""), says("zero f "+w(2), "1"), says("pole f "+w(0.5), "1"), says("start f", ""), says("push f "+w(1, 2, 3), w(0, 0, 0)),
		says("new big "+w(0x1p600), ""), says("zero big "+w(0x1p600), "1"), says("zero big "+w(0x1p601), "2"),
		says("new g "+w(1), ""), says("pole g "+w(0.5), "1"), says("guard g", ""), says("push g "+w(1, 0), w(1, 0.5)),
	)
	before := told(s)
	play(t, s,
		fails("new f "+w(complex(nan, 0)), 0, api.ErrNaN), fails("zero f "+w(complex(infinity, 0)), 0, api.ErrNaN), fails("pole f "+w(complex(0, nan)), 0, api.ErrNaN),
		fails("low f 3 1/1", 0, api.ErrArg), fails("high f 1 0/1", 0, api.ErrArg), fails("series f big big", 0, api.ErrOver), fails("over f f", 0, api.ErrZero),
		fails("start big", 0, api.ErrOver), fails("guard big", 0, api.ErrOver), fails("push big "+w(1), 0, api.ErrNone), fails("count big", 0, api.ErrNone),
		fails("start f f", 8, api.ErrText), fails("guard f x", 8, api.ErrText), fails("drop f f", 7, api.ErrText), fails("push f "+w(1)+" x", 21, api.ErrText), fails("tame f f", 7, api.ErrText), fails("canon f "+w(1), 8, api.ErrText),
		fails("drop nobody", 5, api.ErrName), fails("start nobody", 6, api.ErrName), fails(strings.Repeat(" ", 390)+"drop f drop", 0, api.ErrLong),
	)
	if after := told(s); after != before {
		t.Errorf("P28.3: an error has changed something: %s, it was %s", after, before)
	}
	play(t, s, says("push g "+w(0), w(0.25)), says("count f", "3"))
}
