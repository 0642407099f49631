package shell_test

import (
	"strings"
	"testing"

	"quaver/api"
	"quaver/shell"
	"quaver/trial"
)

func TestExamples(t *testing.T) {
	play(t, shell.New(),
		says("names", ""),
		says("low f 2 1/1", ""),
		says("stable f", "1"),
		says("sure f", "1"),
		says("names", "f"),
		fails("count f", 0, api.ErrNone),
		says("start f", ""),
		says("count f", "0"),
		fails("stable g", 7, api.ErrName),
		fails("low f 3 1/1", 0, api.ErrArg),
		fails("low f 2 1/0", 8, api.ErrText),
		fails("low f", 5, api.ErrText),
		fails("what", 0, api.ErrName),
		says("drop f", ""),
		says("names", ""),
	)
	// The tenth example of the whole.
	play(t, shell.New(), says("new f (0x1p1,0x0p0)", ""), says("start f", ""), says("push f (0x3p0,0x0p0)", "(0x3p1,0x0p0)"))
}

// mixedLine is a line of a command and what may stand behind it, for the most part rightly.
func mixedLine(mix *trial.Mixer, words []string) string {
	names := strings.Fields("a b c ab abcdefghijklmnop nobody")
	numbers := []string{w(1), w(0.5), w(-0.5), w(1i), w(complex(0.6, 0.8)), w(complex(0.6, -0.8)), w(2), w(0), w(0x1p600), w(0x1p-1074), w(complex(infinity, 0)), w(complex(0, nan))}
	counts := strings.Fields("1 2 4 8 02 000000001 3 0 999999999")
	tangents := strings.Fields("1/1 1/3 2/4 3/1 007/5 999999999/1 1/999999999 0/1 000/5")
	junk := strings.Fields("x1 F 1/0 1/000000000 1/0000000001 1/1/1 1/ /1 / 1000000000 0000000001 +1 -1 1.5 abcdefghijklmnopq new names (0x2p0,0x0p0) (0x1p0,0x0p0 é \x80 \t a\tb a\nb \x00 what")
	form := commands()[words[mix.Below(len(words))]]
	first := words[mix.Below(len(words))]
	if mix.Below(20) > 0 {
		form = commands()[first]
	}
	line := []string{first}
	add := func(list []string) {
		if mix.Below(30) == 0 {
			list = junk
		}
		line = append(line, list[mix.Below(len(list))])
	}
	for i := range form {
		switch form[i] {
		case 'n', 'N':
			add(names)
		case 'x':
			add(numbers)
		case 'c':
			add(counts)
		case 't':
			add(tangents)
		case '+':
			for range mix.Below(3) {
				add(numbers)
			}
		}
	}
	switch mix.Below(25) {
	case 0:
		line = line[:mix.Below(len(line))]
	case 1:
		add(junk)
	}
	made := strings.Repeat(" ", mix.Below(20)/18)
	for _, word := range line {
		made += word + " " + strings.Repeat(" ", mix.Below(8)/7)
	}
	if mix.Below(2) > 0 {
		made = strings.TrimRight(made, " ")
	}
	return made
}

func TestLines(t *testing.T) {
	mix := trial.Mixer(540)
	words := strings.Fields("new new zero zero pole pole pole low high series over tame canon show stable sections sure at start start guard push push push count drop names")
	answered := map[api.Errno]int{}
	for range 60 {
		s, m := shell.New(), model{}
		for i := range 150 {
			line := mixedLine(&mix, words)
			if first := []string{"low a 16 1/3", "high b 8 3/1", "new c " + w(2), "over ab b", "low abcdefghijklmnop 1 1/1"}; i < len(first) {
				line = first[i]
			}
			got, want := s.Line(line), m.line(line)
			if got != want {
				t.Fatalf("P28.1 to P28.3: %q answers %v, want %v", line, got, want)
			}
			answered[got.E]++
		}
	}
	// None of the errors has been left out.
	for _, e := range []api.Errno{api.OK, api.ErrArg, api.ErrLong, api.ErrZero, api.ErrNaN, api.ErrOver, api.ErrNone, api.ErrText, api.ErrName} {
		if answered[e] == 0 {
			t.Errorf("no line answered the error %d: %v", e, answered)
		}
	}
}

func TestNilShell(t *testing.T) {
	var none *shell.Shell
	for _, line := range []string{"", "names", "what", "new f (0x1p0,0x0p0)", "show f", strings.Repeat("x", 401), "new F x"} {
		play(t, none, says(line, ""))
	}
}

func TestShellThatNewDidNotMake(t *testing.T) {
	for _, s := range []*shell.Shell{{}, new(shell.Shell)} {
		play(t, s, says("names", ""), fails("show f", 5, api.ErrName), fails("drop f", 5, api.ErrName), fails("what", 0, api.ErrName), says("new f "+w(2), ""), says("start f", ""), says("push f "+w(3), w(6)), says("names", "f"))
	}
	var first shell.Shell
	play(t, &first, says("low f 1 1/1", ""), says("show f", w(0.5)+" zeros "+w(-1)+" poles "+w(0)))
}

func TestShellsOfTheirOwn(t *testing.T) {
	a, b := shell.New(), shell.New()
	play(t, a, says("new f "+w(2), ""), says("start f", ""))
	play(t, b, says("names", ""), says("new f "+w(3), ""), says("start f", ""))
	play(t, a, says("push f "+w(1, 1), w(2, 2)))
	play(t, b, says("count f", "0"), says("push f "+w(1), w(3)), says("drop f", ""))
	play(t, a, says("names", "f"), says("count f", "2"))
}

func TestRun(t *testing.T) {
	for text, want := range map[string][]shell.Reply{
		"":                          nil,
		"\n":                        {{}},
		"\n\n":                      {{}, {}},
		"names":                     {{}},
		"names\n":                   {{}},
		"names\n ":                  {{}, {}},
		"\nwhat":                    {{}, {E: api.ErrName}},
		"new f (0x1p0,0x0p0)\r\n":   {{At: 6, E: api.ErrText}},
		"new f " + w(2) + "\nnames": {{}, {Text: "f"}},
		"what\nnew f " + w(2) + "\n\nstart f\nshow g\nnames x\n" + strings.Repeat(" ", 401) + "\npush f " + w(3) + "\ncount f\n": {{E: api.ErrName}, {}, {}, {}, {At: 5, E: api.ErrName}, {At: 6, E: api.ErrText}, {E: api.ErrLong}, {Text: w(6)}, {Text: "1"}},
	} {
		got := shell.Run(text)
		if len(got) != len(want) {
			t.Errorf("P28.5: Run(%q) = %v, want %v", text, got, want)
			continue
		}
		for i, r := range want {
			if got[i] != r {
				t.Errorf("P28.5: Run(%q): the reply %d is %v, want %v", text, i, got[i], r)
			}
		}
	}
	// Each time on a new shell, and of any length.
	if got := shell.Run("names"); len(got) != 1 || got[0].Text != "" {
		t.Errorf("P28.5: a second shell knows names: %v", got)
	}
	got := shell.Run("new f " + w(1) + "\nstart f\n" + strings.Repeat("push f "+w(1)+"\n", 5000) + "count f")
	if len(got) != 5003 || got[5002].Text != "5000" {
		t.Errorf("P28.5: %d replies, the last one %v", len(got), got[len(got)-1])
	}
}
