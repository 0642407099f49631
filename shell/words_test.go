package shell_test

import (
	"strings"
	"testing"

	"quaver/api"
	"quaver/shell"
)

func TestBlanks(t *testing.T) {
	s := shell.New()
	play(t, s,
		says("", ""), says(" ", ""), says(strings.Repeat(" ", 400), ""),
		says("   new    f "+w(2)+"      ", ""),
		says(" names ", "f"),
		says("names  ", "f"),
		says("  show  f  ", w(2)+" zeros poles"),
		says("start f ", ""),
		says("push   f  "+w(1)+"   "+w(2)+" ", w(2, 4)),
	)
	// Every other byte belongs to a word.
	for c := range 256 {
		if c == ' ' {
			continue
		}
		this := string([]byte{byte(c)})
		play(t, s, fails("names"+this, 0, api.ErrName), fails(" "+this+"names", 1, api.ErrName), fails("names "+this, 6, api.ErrText))
		if c < 'a' || c > 'z' {
			play(t, s, fails("show f"+this, 5, api.ErrText), fails("show "+this, 5, api.ErrText), fails(this, 0, api.ErrName), fails("drop "+this+"f", 5, api.ErrText))
		}
		if c < '0' || c > '9' {
			play(t, s, fails("low f "+this+" 1/1", 6, api.ErrText), fails("low f 1"+this+" 1/1", 6, api.ErrText), fails("low f 1 "+this+"/1", 8, api.ErrText), fails("low f 1 1/1"+this, 8, api.ErrText), fails("low f 1 1"+this+"/1", 8, api.ErrText))
		}
		if c != '/' {
			play(t, s, row{"high g 1 1" + this + "1", "", 9, api.ErrText})
		}
		play(t, s, fails("zero f "+w(1)+this, 7, api.ErrText), fails("zero f "+this+w(1), 7, api.ErrText))
	}
	play(t, s, says("names", "f"), says("count f", "2"))
}

func TestLongLines(t *testing.T) {
	s := shell.New()
	line := "new f " + w(2)
	play(t, s,
		says(line+strings.Repeat(" ", 400-len(line)), ""),
		fails(strings.Replace(line, "f", "g", 1)+strings.Repeat(" ", 401-len(line)), 0, api.ErrLong),
		fails(strings.Repeat(" ", 401), 0, api.ErrLong),
		fails(strings.Repeat("x", 401), 0, api.ErrLong),
		fails(strings.Repeat("x", 400), 0, api.ErrName),
		fails(strings.Repeat(" ", 399)+"x", 399, api.ErrName),
		fails("names"+strings.Repeat(" ", 100000), 0, api.ErrLong),
		says("names", "f"),
	)
}

func TestNames(t *testing.T) {
	s := shell.New()
	long := strings.Repeat("z", 16)
	play(t, s,
		says("new a "+w(1), ""), says("new "+long+" "+w(3), ""), says("show "+long, w(3)+" zeros poles"),
		fails("new "+long+"z "+w(1), 4, api.ErrText),
		fails("show "+long+"z", 5, api.ErrText),
		fails("show "+long[1:], 5, api.ErrName),
		says("new b "+w(1), ""), says("new ab "+w(1), ""), says("new aaa "+w(1), ""), says("new newer "+w(1), ""), says("new nam "+w(1), ""),
		says("names", "a aaa ab b nam newer "+long),
	)
	// No command is a name, wherever a name must stand.
	for word := range commands() {
		play(t, s,
			fails("new "+word+" "+w(1), 4, api.ErrText),
			fails("drop "+word, 5, api.ErrText),
			fails("series a "+word+" b", 9, api.ErrText),
			fails("series a b "+word, 11, api.ErrText),
			fails("over a "+word, 7, api.ErrText),
		)
	}
}

func TestCountsAndTangents(t *testing.T) {
	s := shell.New()
	half := w(0.5) + " zeros " + w(-1) + " poles " + w(0)
	play(t, s,
		says("low f 1 1/1", ""), says("show f", half),
		says("low f 000000001 000000001/000000001", ""), says("show f", half),
		says("low f 01 999999999/999999999", ""), says("show f", half),
		says("low f 1 2/6", ""), says("show f", w(0.25)+" zeros "+w(-1)+" poles "+w(0.5)),
		says("low f 1 300000000/900000000", ""), says("show f", w(0.25)+" zeros "+w(-1)+" poles "+w(0.5)),
		says("high f 1 3/1", ""), says("show f", w(0.25)+" zeros "+w(1)+" poles "+w(-0.5)),
		fails("low f 0000000001 1/1", 6, api.ErrText),
		fails("low f 1000000000 1/1", 6, api.ErrText),
		fails("low f 1 0000000001/1", 8, api.ErrText),
		fails("low f 1 1/0000000001", 8, api.ErrText),
		fails("low f 999999999 1/1", 0, api.ErrArg),
		fails("low f 0 1/1", 0, api.ErrArg),
		fails("low f 3 1/1", 0, api.ErrArg),
		fails("high f 32 1/1", 0, api.ErrArg),
		fails("low f 1 0/1", 0, api.ErrArg),
		fails("high f 1 000/100", 0, api.ErrArg),
		says("low f 16 1/1", ""),
		says("high f 16 1/999999999", ""),
	)
	for _, bad := range strings.Fields("1 / 1/ /1 1/0 1/00 0/0 1/000000000 1//1 1/1/ /1/1 1/1/1 -1/1 1/-1 +1/1 1/+1 1.0/1 1e0/1 0x1/1 1_0/1 a/b 1:1 (1/1)") {
		play(t, s, fails("low f 1 "+bad, 8, api.ErrText), fails("high f 1 "+bad, 9, api.ErrText))
	}
	for _, bad := range strings.Fields("-1 +1 1.0 1e0 0x1 1_0 a 1/1 (0x1p0,0x0p0)") {
		play(t, s, fails("low f "+bad+" 1/1", 6, api.ErrText), fails("high f "+bad+" 1/1", 7, api.ErrText))
	}
}

func TestNumbers(t *testing.T) {
	s := shell.New()
	play(t, s, says("new f "+w(1), ""), says("start f", ""))
	for _, bad := range strings.Fields("1 (1,0) (0x1p0) (0x2p0,0x0p0) (0x1p0,0x0p0 0x1p0 (0x1p0,0x0p0)x (0x1p0,0x0p0)(0x1p0,0x0p0) (0x01p0,0x0p0) () nan inf") {
		play(t, s,
			fails("new f "+bad, 6, api.ErrText),
			fails("zero f "+bad, 7, api.ErrText),
			fails("pole f "+bad, 7, api.ErrText),
			fails("at f "+bad, 5, api.ErrText),
			fails("push f "+bad, 7, api.ErrText),
			fails("push f "+w(1)+" "+bad, 21, api.ErrText),
			fails("push f "+w(1)+" "+bad+" "+w(1), 21, api.ErrText),
		)
	}
	play(t, s, says("count f", "0"), says("show f", w(1)+" zeros poles"))
}

func TestTooFewAndTooMany(t *testing.T) {
	right := map[byte]string{'n': "f", 'N': "f", 'x': w(1), 'c': "1", 't': "1/1"}
	for word, form := range commands() {
		s := shell.New()
		play(t, s, says("new f "+w(1), ""), says("start f", ""))
		form, more := strings.CutSuffix(form, "+")
		line := word
		for i := range form {
			play(t, s, fails(line, len(line), api.ErrText), fails(line+"  ", len(line)+2, api.ErrText), fails(line+" x1", len(line)+1, api.ErrText), fails(line+"   x1 x1", len(line)+3, api.ErrText))
			line += " " + right[form[i]]
		}
		if !more {
			play(t, s, fails(line+" f", len(line)+1, api.ErrText), fails(line+"  1 1", len(line)+2, api.ErrText), fails(line+" "+w(1), len(line)+1, api.ErrText))
		}
		if got := s.Line(line); got.E != api.OK || got.At != 0 {
			t.Errorf("P28.2: %q answers %v", line, got)
		}
	}
}

func TestUnknownNames(t *testing.T) {
	right := map[byte]string{'x': w(1), 'c': "1", 't': "1/1"}
	for word, form := range commands() {
		form = strings.TrimSuffix(form, "+")
		// Each name that must stand for something in turn, all others known.
		for i := range form {
			if form[i] != 'N' {
				continue
			}
			s := shell.New()
			play(t, s, says("new f "+w(1), ""), says("start f", ""))
			line, at := word, 0
			for k := range form {
				line += " "
				switch {
				case k == i:
					at = len(line)
					line += "nobody"
				case form[k] == 'N':
					line += "f"
				case form[k] == 'n':
					line += "other"
				default:
					line += right[form[k]]
				}
			}
			play(t, s, fails(line, at, api.ErrName), fails("  "+line+" ", at+2, api.ErrName), fails(line+" x1", len(line)+1, api.ErrText), says("names", "f"), says("count f", "0"))
		}
	}
	play(t, shell.New(),
		fails("series f no other", 9, api.ErrName),
		fails("series f no other x", 18, api.ErrText),
		says("new no "+w(1), ""),
		fails("series f no other", 12, api.ErrName),
		fails("series f other no", 9, api.ErrName),
		fails("over f f", 7, api.ErrName),
		fails("push nobody", 11, api.ErrText),
		fails("at nobody 1", 10, api.ErrText),
		fails("names no x", 6, api.ErrText),
	)
}
