package shell

import (
	"slices"
	"strconv"
	"strings"

	"quaver/api"
	"quaver/ratio"
	"quaver/text"
)

// word is a word of a line and the place of its first byte.
type word struct {
	text string
	at   int
}

// split is a line's words.
func split(line string) []word {
	var words []word
	at := 0
	for piece := range strings.SplitSeq(line, " ") {
		if piece != "" {
			words = append(words, word{piece, at})
		}
		at += len(piece) + 1
	}
	return words
}

// kind is what must stand at a place behind a command.
type kind int

const (
	anyName kind = iota // a name that need not stand for anything
	oldName             // a name that must stand for something
	number
	samples // one number or more
	count
	tangent
)

// given is what stands behind a command.
type given struct {
	names   []word
	asked   []word // those of them that must stand for something
	numbers []complex128
	count   int
	tangent api.Rat
}

// take is what words say that stand behind a command which wants these, or their first fault.
func (s *Shell) take(wants []kind, words []word, end int) (given, Reply) {
	var g given
	for len(wants) > 0 {
		if len(words) == 0 {
			return given{}, Reply{At: end, E: api.ErrText}
		}
		if !s.word(&g, wants[0], words[0]) {
			return given{}, Reply{At: words[0].at, E: api.ErrText}
		}
		words = words[1:]
		// Each word behind the first sample is wanted as another.
		if wants[0] != samples || len(words) == 0 {
			wants = wants[1:]
		}
	}
	if len(words) > 0 {
		return given{}, Reply{At: words[0].at, E: api.ErrText}
	}
	for _, w := range g.asked {
		if _, there := s.names[w.text]; !there {
			return given{}, Reply{At: w.at, E: api.ErrName}
		}
	}
	return g, Reply{}
}

// word adds to what is given a word that must be of a kind: is it?
func (s *Shell) word(g *given, k kind, w word) bool {
	ok := false
	switch k {
	case anyName, oldName:
		ok = s.isName(w.text)
		g.names = append(g.names, w)
		if k == oldName {
			g.asked = append(g.asked, w)
		}
	case number, samples:
		a, _, e := text.Read(w.text)
		ok = e == api.OK
		g.numbers = append(g.numbers, a)
	case count:
		g.count, ok = counted(w.text)
	case tangent:
		g.tangent, ok = slope(w.text)
	}
	return ok
}

// isName: is the word a name?
func (s *Shell) isName(w string) bool {
	letter := func(c byte) bool { return 'a' <= c && c <= 'z' }
	if len(w) < 1 || len(w) > api.MaxName || !every(w, letter) {
		return false
	}
	_, taken := s.command(w)
	return !taken
}

// every: is each byte so?
func every(w string, so func(c byte) bool) bool {
	return !slices.ContainsFunc([]byte(w), func(c byte) bool { return !so(c) })
}

// mostDigits is how many digits a count has at most.
const mostDigits = 9

// counted is the count that a word is, if it is one.
func counted(w string) (int, bool) {
	digit := func(c byte) bool { return '0' <= c && c <= '9' }
	if len(w) < 1 || len(w) > mostDigits || !every(w, digit) {
		return 0, false
	}
	n, err := strconv.Atoi(w)
	return n, err == nil
}

// slope is the tangent that a word is, if it is one.
func slope(w string) (api.Rat, bool) {
	above, below, _ := strings.Cut(w, "/")
	a, first := counted(above)
	b, second := counted(below)
	if !first || !second {
		return api.Rat{}, false
	}
	t, e := ratio.Make(false, []uint64{uint64(a)}, []uint64{uint64(b)})
	return t, e == api.OK
}
