package shell_test

import (
	"fmt"
	"math"
	"math/big"
	"regexp"
	"slices"
	"strconv"
	"strings"
	"testing"

	"quaver/api"
	"quaver/biquad"
	"quaver/proto"
	"quaver/resp"
	"quaver/shell"
	"quaver/text"
	"quaver/trial"
	"quaver/zpk"
)

var (
	infinity = math.Inf(1)
	nan      = math.NaN()
)

// w is what text.Write says of numbers, a blank between.
func w(list ...complex128) string {
	var texts []string
	for _, a := range list {
		texts = append(texts, text.Write(a))
	}
	return strings.Join(texts, " ")
}

// row is a line and what it answers.
type row struct {
	line, text string
	at         int
	e          api.Errno
}

// says is a line that answers so, fails one that is at fault.
func says(line, text string) row {
	return row{line, text, 0, api.OK}
}

func fails(line string, at int, e api.Errno) row {
	return row{line, "", at, e}
}

// play holds the answers of a shell, line by line, against those that are wanted.
func play(t *testing.T, s *shell.Shell, rows ...row) {
	t.Helper()
	for _, r := range rows {
		if got := s.Line(r.line); got != (shell.Reply{Text: r.text, At: r.at, E: r.e}) {
			t.Errorf("%.80q answers %q, At %d, error %d, want %q, At %d, error %d", r.line, got.Text, got.At, got.E, r.text, r.at, r.e)
		}
	}
}

// told is all that a shell tells of its names, and of the streams how many samples came.
func told(s *shell.Shell) string {
	all := s.Line("names").Text + "\n"
	for name := range strings.FieldsSeq(all) {
		came := s.Line("count " + name)
		all += fmt.Sprintf("%s: %s, %v\n", name, s.Line("show "+name).Text, came)
	}
	return all
}

// commands are P28.2's words with what stands behind them: n a name, N one that must stand for something, x a number, c a count, t a tangent; + one or more.
func commands() map[string]string {
	return map[string]string{
		"new": "nx", "zero": "Nx", "pole": "Nx", "low": "nct", "high": "nct", "series": "nNN", "over": "nN", "tame": "N", "canon": "N", "show": "N", "stable": "N", "sections": "N",
		"sure": "N", "at": "Nx", "start": "N", "guard": "N", "push": "Nx+", "count": "N", "drop": "N", "names": "",
	}
}

// is: is the word of the kind?
func is(word string, kind byte) bool {
	switch kind {
	case 'c':
		return regexp.MustCompile(`\A[0-9]{1,9}\z`).MatchString(word)
	case 't':
		return regexp.MustCompile(`\A[0-9]{1,9}/[0-9]{1,9}\z`).MatchString(word) && !regexp.MustCompile(`/0+\z`).MatchString(word)
	case 'x':
		_, _, e := text.Read(word)
		return e == api.OK
	}
	_, command := commands()[word]
	return regexp.MustCompile(`\A[a-z]{1,16}\z`).MatchString(word) && !command
}

// thing is what a name stands for, model a shell by another road.
type thing struct {
	design api.Zpk
	stream *trial.Guarded
	came   int
}

type model map[string]*thing

// line is P28.3: the faults, one behind the other, and then the command.
func (m model) line(s string) shell.Reply {
	if len(s) > 400 {
		return shell.Reply{E: api.ErrLong}
	}
	places := regexp.MustCompile(`[^ ]+`).FindAllStringIndex(s, -1)
	if len(places) == 0 {
		return shell.Reply{}
	}
	var words []string
	for _, p := range places {
		words = append(words, s[p[0]:p[1]])
	}
	form, found := commands()[words[0]]
	if !found {
		return shell.Reply{At: places[0][0], E: api.ErrName}
	}
	if front, more := strings.CutSuffix(form, "+"); more {
		form = front + strings.Repeat("x", max(0, len(words)-1-len(front)))
	}
	for i := range form {
		if i+1 == len(words) {
			return shell.Reply{At: len(s), E: api.ErrText}
		}
		if !is(words[i+1], form[i]) {
			return shell.Reply{At: places[i+1][0], E: api.ErrText}
		}
	}
	if len(words) > len(form)+1 {
		return shell.Reply{At: places[len(form)+1][0], E: api.ErrText}
	}
	for i := range form {
		if form[i] == 'N' && m[words[i+1]] == nil {
			return shell.Reply{At: places[i+1][0], E: api.ErrName}
		}
	}
	text, e := m.do(words)
	return shell.Reply{Text: text, E: e}
}

// put is a design for a name.
func (m model) put(name string, f api.Zpk, e api.Errno) (string, api.Errno) {
	if e != api.OK {
		return "", e
	}
	if m[name] == nil && len(m) >= 64 {
		return "", api.ErrFull
	}
	m[name] = &thing{design: f}
	return "", api.OK
}

func read(word string) complex128 {
	a, _, _ := text.Read(word)
	return a
}

// do is P28.2: what gives a name a design; the others by ask.
func (m model) do(words []string) (string, api.Errno) {
	if words[0] == "names" {
		var names []string
		for name := range m {
			names = append(names, name)
		}
		slices.Sort(names)
		return strings.Join(names, " "), api.OK
	}
	name := words[1]
	switch words[0] {
	case "new":
		f := api.Zpk{Gain: read(words[2])}
		return m.put(name, f, zpk.Check(f))
	case "zero", "pole":
		f := m[name].design
		list := &f.Zeros
		if words[0] == "pole" {
			list = &f.Poles
		}
		*list = append(slices.Clone(*list), read(words[2]))
		_, e := m.put(name, f, zpk.Check(f))
		if e != api.OK {
			return "", e
		}
		return fmt.Sprint(len(*list)), e
	case "low", "high":
		n, _ := strconv.Atoi(words[2])
		a, b, _ := strings.Cut(words[3], "/")
		above, _ := strconv.ParseInt(a, 10, 64)
		below, _ := strconv.ParseInt(b, 10, 64)
		call := map[string]func(int, api.Rat) (api.Zpk, api.Errno){"low": proto.Low, "high": proto.High}[words[0]]
		f, e := call(n, trial.Told(big.NewRat(above, below)))
		return m.put(name, f, e)
	case "series":
		f, e := zpk.Series(m[words[2]].design, m[words[3]].design)
		return m.put(name, f, e)
	case "over":
		f, e := zpk.Over(m[words[2]].design)
		return m.put(name, f, e)
	case "tame", "canon":
		call := map[string]func(api.Zpk) (api.Zpk, api.Errno){"tame": zpk.Tame, "canon": zpk.Canon}[words[0]]
		f, e := call(m[name].design)
		return m.put(name, f, e)
	case "drop":
		delete(m, name)
		return "", api.OK
	}
	return m.ask(m[name], words)
}

// ask is P28.2: what asks of a name, and its streams.
func (m model) ask(a *thing, words []string) (string, api.Errno) {
	yes := map[bool]string{true: "1", false: "0"}
	switch words[0] {
	case "show":
		return strings.Join(slices.Concat([]string{w(a.design.Gain), "zeros"}, strings.Fields(w(a.design.Zeros...)), []string{"poles"}, strings.Fields(w(a.design.Poles...))), " "), api.OK
	case "stable":
		so, _ := zpk.Stable(a.design)
		return yes[so], api.OK
	case "push":
		if a.stream == nil {
			return "", api.ErrNone
		}
		var made []complex128
		for _, x := range words[2:] {
			made = append(made, a.stream.Step(read(x)))
		}
		a.came += len(made)
		return w(made...), api.OK
	case "count":
		if a.stream == nil {
			return "", api.ErrNone
		}
		return fmt.Sprint(a.came), api.OK
	}
	f, e := biquad.Filter(a.design)
	if e != api.OK {
		return "", e
	}
	switch words[0] {
	case "sections":
		told := fmt.Sprint(len(f.Sections))
		for _, s := range f.Sections {
			told += " " + w(trial.Row(s)...)
		}
		return told, api.OK
	case "sure":
		return yes[!slices.ContainsFunc(f.Sections, func(s api.Section) bool { so, _ := biquad.Stable(s); return !so })], api.OK
	case "at":
		y, e := resp.At(f, read(words[2]))
		if e != api.OK {
			return "", e
		}
		return w(y), api.OK
	case "start":
		a.stream, a.came = trial.NewGuarded(f, api.Guard{}), 0
	case "guard":
		a.stream, a.came = trial.NewGuarded(f, api.Guard{Flush: true, Clip: true, Mute: true}), 0
	}
	return "", api.OK
}
