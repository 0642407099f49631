package text_test

import (
	"strings"
	"testing"

	"quaver/api"
	"quaver/text"
	"quaver/trial"
)

// fits holds what the package says of a text against P27.3 by another road, and against P27.4.
func fits(t *testing.T, s string, kind int) {
	t.Helper()
	want, wantAt, wantE := asked(s, kind)
	if wantE != api.OK {
		want = []complex128{0}
	}
	got, at, e := read(s, kind)
	if e != wantE || at != wantAt || !trial.AlikeNumbers(got, want) {
		t.Fatalf("P27.3: the text %.300q of the kind %d: %v, %d, %d, want %v, %d, %d", s, kind, got, at, e, want, wantAt, wantE)
	}
	if e != api.OK {
		return
	}
	if told, e := again(s, kind); e != api.OK || told != s {
		t.Fatalf("P27.4: the text %q is written as %q, %d", s, told, e)
	}
}

func TestReadExamples(t *testing.T) {
	if a, at, e := text.Read("(0x1p0,0x0p0)"); a != 1 || at != 0 || e != api.OK {
		t.Errorf("P27.3: %v, %d, %d", a, at, e)
	}
	for _, c := range []struct {
		s  string
		at int
	}{{"", 0}, {"(0x1p0,0x0p0) ", 13}, {"(0x1p0)", 6}, {"(0x2p0,0x0p0)", 1}, {"(0x2p0;", 6}, {"(0x01p0,", 4}, {"(0x1p-0,", 6}, {"(0x1p1024,0x0p0)", 1}, {"(-nan,", 2}, {"(0X1p0,", 2}} {
		if a, at, e := text.Read(c.s); a != 0 || at != c.at || e != api.ErrText {
			t.Errorf("P27.3: Read(%s) = %v, %d, %d, want At %d", c.s, a, at, e, c.at)
		}
	}
	if _, at, e := text.ReadZpk("zpk (inf,0x0p0) | |"); at != 4 || e != api.ErrNaN {
		t.Errorf("P27.3: an infinite gain: %d, %d", at, e)
	}
	if _, at, e := text.ReadZpk("zpk (0x1p0,0x0p0) |"); at != 19 || e != api.ErrText {
		t.Errorf("P27.3: without poles: %d, %d", at, e)
	}
	if f, at, e := text.ReadFilter("filter (0x1p0,0x0p0)"); f.Gain != 1 || len(f.Sections) != 0 || at != 0 || e != api.OK {
		t.Errorf("P27.3: without sections: %v, %d, %d", f, at, e)
	}
	if _, at, e := text.ReadFilter("filter (0x1p0,0x0p0) | (0x1p0,0x0p0)"); at != 36 || e != api.ErrText {
		t.Errorf("P27.3: one number of five: %d, %d", at, e)
	}
}

// some are texts of each kind, and what is nearly one.
func some() []string {
	one := numberText(1)
	return []string{
		one, numberText(complex(nan, -infinity)), numberText(complex(infinity, minus)), numberText(complex(-0.1, trial.Greatest)), "(0x0p0,-0x8ap-12)", "(0x1p1024,0x1p-1075)",
		"zpk " + one + " | |", zpkText(api.Zpk{Gain: 3, Zeros: []complex128{1, 2}, Poles: []complex128{0.1i, -3}}), "zpk " + one + " | (nan,0x0p0) (0x2p0,inf) |", "zpk " + one + " | (nan,0x2p0) |",
		"filter " + one, filterText(api.Filter{Gain: 0.3, Sections: []api.Section{{B0: 1, A2: -2}, {A1: 5i}}}), "filter " + one + " |" + strings.Repeat(" "+one, 4) + " (inf,0x1p0)",
	}
}

func TestReadEveryByte(t *testing.T) {
	for _, s := range some() {
		own := strings.IndexByte("(zf", s[0])
		for kind := range 3 {
			fits(t, s, kind)
			for at := range s {
				fits(t, s[:at], kind)
				fits(t, s[:at]+s[at+1:], kind)
				fits(t, s[:at]+s[at:at+1]+s[at:], kind)
				// A text of another kind goes no further than its first bytes.
				for c := range 256 {
					if at < 5 || kind == own {
						fits(t, s[:at]+string([]byte{byte(c)})+s[at+1:], kind)
					}
				}
			}
			for c := range 256 {
				fits(t, s+string([]byte{byte(c)}), kind)
			}
		}
	}
}

func TestReadMixedUp(t *testing.T) {
	mix := trial.Mixer(533)
	bytes := "0123456789abcdefpnaix-,() |"
	for range 15000 {
		var s string
		kind := mix.Below(3)
		switch kind {
		case ofZpk:
			s = zpkText(design(&mix, mix.Below(4), mix.Below(3)))
		case ofFilter:
			s = filterText(sections(&mix, mix.Below(3)))
		default:
			s = numberText(complex(mix.Float(), mix.Float()))
		}
		for range 1 + mix.Below(3) {
			at, c := mix.Below(len(s)), mix.Below(len(bytes))
			switch mix.Below(3) {
			case 0:
				s = s[:at] + bytes[c:c+1] + s[at+1:]
			case 1:
				s = s[:at] + bytes[c:c+1] + s[at:]
			default:
				s = s[:at] + s[at+1:] + " "[:mix.Below(2)]
			}
		}
		fits(t, s, kind)
	}
}

func TestReadRightFloats(t *testing.T) {
	// At the edges of what a float64 can be, and where wrap-round would bring a number back among them.
	all := strings.Fields("0 1 2 3 7 8 10 11 1f 20 21 fffffffffffff 10000000000001 1fffffffffffff 20000000000000 20000000000001 3fffffffffffff 7fffffffffffffff 8000000000000001 ffffffffffffffff 10000000000000000 10000000000000001 100000000000000000000000000000001")
	powers := strings.Fields("0 1 -1 52 53 -52 970 971 972 1022 1023 1024 1025 2000 -1021 -1022 -1023 -1073 -1074 -1075 -1076 -1126 -1127 -2000 4294967296 -4294967296 9223372036854775807 -9223372036854775808 18446744073709551616 -18446744073709551616 18446744073709551617 99999999999999999999999999999")
	for _, m := range all {
		for _, e := range powers {
			s := "0x" + m + "p" + e
			for _, f := range []string{s, "-" + s} {
				fits(t, "("+f+",0x0p0)", ofNumber)
				fits(t, "(inf,"+f+")", ofNumber)
				fits(t, "zpk (0x1p0,"+f+") | |", ofZpk)
			}
		}
	}
	long := strings.Repeat("0", 60000) + "1"
	for _, s := range []string{"(0x1" + long + "p-240004,0x0p0)", "(0x1p1" + long + ",0x0p0)", "(0x0p0,0x1p-1" + long + ")", "(0x1p0,0x" + long} {
		first := strings.LastIndex(s, "0x")
		if strings.HasPrefix(s, "(0x1p1") || strings.HasPrefix(s, "(0x10") {
			first = 1
		}
		if s == "(0x1p0,0x"+long {
			first = len("(0x1p0,0x0")
		}
		if a, at, e := text.Read(s); a != 0 || at != first || e != api.ErrText {
			t.Errorf("P27.3: Read(%.20s ..) = %v, %d, %d, want At %d", s, a, at, e, first)
		}
	}
}

func TestReadFirstFault(t *testing.T) {
	one := numberText(1)
	for _, c := range []struct {
		s    string
		kind int
		at   int
		e    api.Errno
	}{
		// A float is told ahead of what stands behind it, but not ahead of its end.
		{"(0x2p0,x", ofNumber, 1, api.ErrText},
		{"(0x2p0", ofNumber, 6, api.ErrText},
		{"(0x2p0 ,", ofNumber, 6, api.ErrText},
		{"(0x1p0,0x4p0)x", ofNumber, 7, api.ErrText},
		{"(0x1p0,-0x4p0)", ofNumber, 7, api.ErrText},
		{"(0x1p0,0x1p0,", ofNumber, 12, api.ErrText},
		{"(0x1p0;", ofNumber, 6, api.ErrText},
		{"(nan,inf)", ofNumber, 0, api.OK},
		{one + one, ofNumber, 13, api.ErrText},
		{one + "\x00", ofNumber, 13, api.ErrText},
		{"\x00", ofNumber, 0, api.ErrText},
		// A number is finite or not when it ends, and not before.
		{"zpk (inf,0x2p0) | |", ofZpk, 9, api.ErrText},
		{"zpk (inf,0x1p0", ofZpk, 14, api.ErrText},
		{"zpk (inf,0x1p0)x", ofZpk, 4, api.ErrNaN},
		{"zpk (0x1p0,nan)", ofZpk, 4, api.ErrNaN},
		{"zpk " + one + " | " + one + " (-inf,0x0p0) (0x2p0,", ofZpk, 34, api.ErrNaN},
		{"filter (nan,nan)", ofFilter, 7, api.ErrNaN},
		{"filter " + one + " | (inf,inf) |", ofFilter, 23, api.ErrNaN},
		// One kind is not the other.
		{"zpk " + one + " | |", ofFilter, 0, api.ErrText},
		{"zpk " + one + " | |", ofNumber, 0, api.ErrText},
		{"filter " + one, ofZpk, 0, api.ErrText},
		{"zpk " + one + " | | |", ofZpk, 22, api.ErrText},
		{"zpk  " + one + " | |", ofZpk, 4, api.ErrText},
		{"zpk " + one + " |" + "|", ofZpk, 19, api.ErrText},
		{"zpk\t" + one + " | |", ofZpk, 3, api.ErrText},
		{"", ofZpk, 0, api.ErrText},
		{"", ofFilter, 0, api.ErrText},
		{"filte", ofFilter, 5, api.ErrText},
	} {
		got, at, e := read(c.s, c.kind)
		if at != c.at || e != c.e || e != api.OK && !trial.AlikeNumbers(got, []complex128{0}) {
			t.Errorf("P27.3: %q of the kind %d: %v, %d, %d, want %d, %d", c.s, c.kind, got, at, e, c.at, c.e)
		}
		fits(t, c.s, c.kind)
	}
}

func TestReadLimits(t *testing.T) {
	mix := trial.Mixer(534)
	for _, n := range []int{23, 24, 25, 26} {
		for _, m := range []int{0, 1, 24, 25} {
			fits(t, zpkText(design(&mix, n, m)), ofZpk)
			fits(t, zpkText(design(&mix, m, n)), ofZpk)
		}
	}
	for _, n := range []int{15, 16, 17, 18} {
		fits(t, filterText(sections(&mix, n)), ofFilter)
	}
	// Only the bracket and the | are too many; a byte that can't stand there comes first.
	full := zpkText(design(&mix, 24, 0))
	front := strings.TrimSuffix(full, "|")
	for _, s := range []string{front + "(", front + "(x", front + "x", front + "| (", full + strings.Repeat(texts(1), 24) + " (", full + strings.Repeat(texts(1), 24) + " |", full + strings.Repeat(texts(1), 24) + "(", full + strings.Repeat(texts(1), 24) + " "} {
		fits(t, s, ofZpk)
	}
	full = filterText(sections(&mix, 16))
	for _, s := range []string{full + " |", full + " | (", full + "|", full + " (", full + " "} {
		fits(t, s, ofFilter)
	}
	if _, at, e := text.ReadZpk(front + "("); at != len(front) || e != api.ErrLong {
		t.Errorf("P27.3: 25 zeros: %d, %d, want %d", at, e, len(front))
	}
	if _, at, e := text.ReadFilter(full + " |"); at != len(full)+1 || e != api.ErrLong {
		t.Errorf("P27.3: 17 sections: %d, %d, want %d", at, e, len(full)+1)
	}
	// The text's length comes ahead of all else.
	for kind := range 3 {
		for s, want := range map[string]api.Errno{strings.Repeat("(", 65536): api.ErrText, strings.Repeat("(", 65537): api.ErrLong, numberText(1) + strings.Repeat(" ", 65523): api.ErrText, numberText(1) + strings.Repeat(" ", 65524): api.ErrLong} {
			got, at, e := read(s, kind)
			if e != want || want == api.ErrLong && at != 0 || !trial.AlikeNumbers(got, []complex128{0}) {
				t.Errorf("P27.3: %d bytes of the kind %d: %v, %d, %d, want the error %d", len(s), kind, got, at, e, want)
			}
			fits(t, s, kind)
		}
	}
}
