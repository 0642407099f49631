package shell

import (
	"maps"
	"slices"
	"strconv"
	"strings"

	"quaver/api"
	"quaver/biquad"
	"quaver/numbers"
	"quaver/resp"
	"quaver/stream"
	"quaver/text"
)

// filter is the design of a given name in sections.
func (s *Shell) filter(w word) (api.Filter, api.Errno) {
	return biquad.Filter(s.design(w))
}

func (s *Shell) sections(g given) (string, api.Errno) {
	f, e := s.filter(g.names[0])
	if e != api.OK {
		return "", e
	}
	words := []string{strconv.Itoa(len(f.Sections))}
	for _, one := range f.Sections {
		words = append(words, written(numbers.Coefficients(one))...)
	}
	return strings.Join(words, " "), api.OK
}

func (s *Shell) sure(g given) (string, api.Errno) {
	f, e := s.filter(g.names[0])
	if e != api.OK {
		return "", e
	}
	for _, one := range f.Sections {
		if stable, e := biquad.Stable(one); !stable {
			return told(false, e)
		}
	}
	return told(true, api.OK)
}

func (s *Shell) at(g given) (string, api.Errno) {
	f, e := s.filter(g.names[0])
	if e != api.OK {
		return "", e
	}
	a, e := resp.At(f, g.numbers[0])
	if e != api.OK {
		return "", e
	}
	return text.Write(a), api.OK
}

func (s *Shell) start(g given) (string, api.Errno) {
	return "", s.begin(g.names[0], api.Guard{})
}

func (s *Shell) guard(g given) (string, api.Errno) {
	return "", s.begin(g.names[0], api.Guard{Flush: true, Clip: true, Mute: true})
}

// begin gives a name a stream at its beginning.
func (s *Shell) begin(w word, guard api.Guard) api.Errno {
	f, e := s.filter(w)
	if e != api.OK {
		return e
	}
	begun, e := stream.New(f, guard)
	if e != api.OK {
		return e
	}
	s.names[w.text].stream = begun
	return api.OK
}

func (s *Shell) push(g given) (string, api.Errno) {
	begun := s.names[g.names[0].text].stream
	if begun == nil {
		return "", api.ErrNone
	}
	return strings.Join(written(begun.Push(g.numbers)), " "), api.OK
}

// came tells how many samples came.
func (s *Shell) came(g given) (string, api.Errno) {
	begun := s.names[g.names[0].text].stream
	if begun == nil {
		return "", api.ErrNone
	}
	return strconv.FormatUint(begun.At(), 10), api.OK
}

func (s *Shell) drop(g given) (string, api.Errno) {
	delete(s.names, g.names[0].text)
	return "", api.OK
}

// all tells the names, in an order that is no map's.
func (s *Shell) all(given) (string, api.Errno) {
	return strings.Join(slices.Sorted(maps.Keys(s.names)), " "), api.OK
}
