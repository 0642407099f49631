package shell

import (
	"slices"
	"strconv"
	"strings"

	"quaver/api"
	"quaver/proto"
	"quaver/text"
	"quaver/zpk"
)

// design is the one that a given name stands for.
func (s *Shell) design(w word) api.Zpk {
	return s.names[w.text].design
}

// keep lets a name stand for a design, unless that one was refused; a stream of the name has ended.
func (s *Shell) keep(w word, f api.Zpk, e api.Errno) api.Errno {
	if e != api.OK {
		return e
	}
	_, there := s.names[w.text]
	if !there && len(s.names) == api.MaxNames {
		return api.ErrFull
	}
	if s.names == nil {
		s.names = make(map[string]*named)
	}
	// A piece of the line would hold on to all of it.
	s.names[strings.Clone(w.text)] = &named{design: f}
	return api.OK
}

func (s *Shell) gain(g given) (string, api.Errno) {
	f := api.Zpk{Gain: g.numbers[0]}
	return "", s.keep(g.names[0], f, zpk.Check(f))
}

func (s *Shell) zero(g given) (string, api.Errno) {
	f := s.design(g.names[0])
	f.Zeros = append(slices.Clone(f.Zeros), g.numbers[0])
	return counting(f.Zeros, s.keep(g.names[0], f, zpk.Check(f)))
}

func (s *Shell) pole(g given) (string, api.Errno) {
	f := s.design(g.names[0])
	f.Poles = append(slices.Clone(f.Poles), g.numbers[0])
	return counting(f.Poles, s.keep(g.names[0], f, zpk.Check(f)))
}

// counting tells how many there are, unless there is an error.
func counting(list []complex128, e api.Errno) (string, api.Errno) {
	if e != api.OK {
		return "", e
	}
	return strconv.Itoa(len(list)), api.OK
}

func (s *Shell) low(g given) (string, api.Errno) {
	f, e := proto.Low(g.count, g.tangent)
	return "", s.keep(g.names[0], f, e)
}

func (s *Shell) high(g given) (string, api.Errno) {
	f, e := proto.High(g.count, g.tangent)
	return "", s.keep(g.names[0], f, e)
}

func (s *Shell) series(g given) (string, api.Errno) {
	f, e := zpk.Series(s.design(g.names[1]), s.design(g.names[2]))
	return "", s.keep(g.names[0], f, e)
}

func (s *Shell) over(g given) (string, api.Errno) {
	f, e := zpk.Over(s.design(g.names[1]))
	return "", s.keep(g.names[0], f, e)
}

func (s *Shell) tame(g given) (string, api.Errno) {
	f, e := zpk.Tame(s.design(g.names[0]))
	return "", s.keep(g.names[0], f, e)
}

func (s *Shell) canon(g given) (string, api.Errno) {
	f, e := zpk.Canon(s.design(g.names[0]))
	return "", s.keep(g.names[0], f, e)
}

func (s *Shell) show(g given) (string, api.Errno) {
	f := s.design(g.names[0])
	words := []string{text.Write(f.Gain), "zeros"}
	words = append(words, written(f.Zeros)...)
	words = append(words, "poles")
	words = append(words, written(f.Poles)...)
	return strings.Join(words, " "), api.OK
}

func (s *Shell) stable(g given) (string, api.Errno) {
	return told(zpk.Stable(s.design(g.names[0])))
}

// written are numbers as texts.
func written(list []complex128) []string {
	texts := make([]string, len(list))
	for i, a := range list {
		texts[i] = text.Write(a)
	}
	return texts
}

// told is 1 or 0, unless there is an error.
func told(so bool, e api.Errno) (string, api.Errno) {
	if e != api.OK {
		return "", e
	}
	if so {
		return "1", api.OK
	}
	return "0", api.OK
}
