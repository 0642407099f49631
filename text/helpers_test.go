package text_test

import (
	"fmt"
	"math"
	"math/big"
	"slices"
	"strings"

	"quaver/api"
	"quaver/text"
	"quaver/trial"
)

var (
	minus    = math.Copysign(0, -1)
	infinity = math.Inf(1)
	nan      = math.NaN()
)

// floatText is what a float is written as, by math.Frexp.
func floatText(x float64) string {
	switch {
	case math.IsNaN(x):
		return "nan"
	case math.IsInf(x, 1):
		return "inf"
	case math.Signbit(x):
		if math.IsInf(x, -1) {
			return "-inf"
		}
		return "-" + floatText(-x)
	case x == 0:
		return "0x0p0"
	}
	fraction, power := math.Frexp(x)
	for fraction != math.Trunc(fraction) {
		fraction, power = fraction*2, power-1
	}
	return fmt.Sprintf("0x%xp%d", int64(fraction), power)
}

func numberText(a complex128) string {
	return "(" + floatText(real(a)) + "," + floatText(imag(a)) + ")"
}

// texts are numbers' texts, each with a blank in front.
func texts(list ...complex128) string {
	made := ""
	for _, a := range list {
		made += " " + numberText(a)
	}
	return made
}

func zpkText(f api.Zpk) string {
	return "zpk" + texts(f.Gain) + " |" + texts(f.Zeros...) + " |" + texts(f.Poles...)
}

func filterText(f api.Filter) string {
	made := "filter" + texts(f.Gain)
	for _, s := range f.Sections {
		made += " |" + texts(trial.Row(s)...)
	}
	return made
}

// rule takes bytes of a text from a place on in all the ways that it can, and goes on from where each of them ends.
type rule func(s string, at int, then func(at int))

// one takes a byte of these; far is how far any way ever came.
func one(far *int, these string) rule {
	return func(s string, at int, then func(at int)) {
		if at < len(s) && strings.Contains(these, s[at:at+1]) {
			*far = max(*far, at+1)
			then(at + 1)
		}
	}
}

func row(rules ...rule) rule {
	return func(s string, at int, then func(at int)) {
		if len(rules) == 0 {
			then(at)
			return
		}
		rules[0](s, at, func(at int) { row(rules[1:]...)(s, at, then) })
	}
}

func either(rules ...rule) rule {
	return func(s string, at int, then func(at int)) {
		for _, r := range rules {
			r(s, at, then)
		}
	}
}

func many(r rule) rule {
	return func(s string, at int, then func(at int)) {
		then(at)
		r(s, at, func(at int) { many(r)(s, at, then) })
	}
}

// kinds are the three kinds of texts.
const (
	ofNumber = iota
	ofZpk
	ofFilter
)

// grammar is the form of a kind of texts, M and E as long as one likes.
func grammar(far *int, kind int) rule {
	word := func(w string) rule {
		var rules []rule
		for _, c := range w {
			rules = append(rules, one(far, string(c)))
		}
		return row(rules...)
	}
	ten, sixteen := one(far, "0123456789"), one(far, "0123456789abcdef")
	m := either(word("0"), row(one(far, "123456789abcdef"), many(sixteen)))
	positive := row(one(far, "123456789"), many(ten))
	e := either(word("0"), positive, row(word("-"), positive))
	hex := row(word("0x"), m, word("p"), e)
	float := either(word("nan"), word("inf"), word("-inf"), hex, row(word("-"), hex))
	number := row(word("("), float, word(","), float, word(")"))
	blank := row(word(" "), number)
	switch kind {
	case ofZpk:
		return row(word("zpk"), blank, word(" |"), many(blank), word(" |"), many(blank))
	case ofFilter:
		return row(word("filter"), blank, many(row(word(" |"), blank, blank, blank, blank, blank)))
	}
	return number
}

// value is the float64 that a float of the form says, and whether it is right, by math/big.
func value(s string) (float64, bool) {
	switch s {
	case "nan":
		return nan, true
	case "inf":
		return infinity, true
	case "-inf":
		return -infinity, true
	}
	digits, neg := strings.CutPrefix(s, "-")
	front, behind, _ := strings.Cut(digits[2:], "p")
	m, _ := new(big.Int).SetString(front, 16)
	e, _ := new(big.Int).SetString(behind, 10)
	sign := 1.0
	if neg {
		sign = -1
	}
	if m.Sign() == 0 {
		return math.Copysign(0, sign), e.Sign() == 0
	}
	if m.Bit(0) == 0 || !e.IsInt64() || e.Int64() < -1074 || e.Int64() > 1023 {
		return 0, false
	}
	x, exactly := new(big.Rat).Mul(new(big.Rat).SetInt(m), trial.Up(int(e.Int64()))).Float64()
	return math.Copysign(x, sign), exactly && trial.Finite(x)
}

// asked is P27.3 by another road: the numbers of a text, or its fault.
func asked(s string, kind int) ([]complex128, int, api.Errno) {
	if len(s) > 65536 {
		return nil, 0, api.ErrLong
	}
	far, whole := 0, false
	grammar(&far, kind)(s, 0, func(at int) { whole = whole || at == len(s) })
	var numbers []complex128
	var re float64
	left, first, bars, roots := 0, 0, 0, 0
	for i := range far {
		switch s[i] {
		case '|':
			bars++
			roots = 0
			if kind == ofFilter && bars > 16 {
				return nil, i, api.ErrLong
			}
		case '(':
			left, first = i, i+1
			roots++
			if kind == ofZpk && roots > 24 {
				return nil, i, api.ErrLong
			}
		case ',', ')':
			x, right := value(s[first:i])
			if !right {
				return nil, first, api.ErrText
			}
			if s[i] == ',' {
				re, first = x, i+1
				continue
			}
			if kind != ofNumber && !(trial.Finite(re) && trial.Finite(x)) {
				return nil, left, api.ErrNaN
			}
			numbers = append(numbers, complex(re, x))
		}
	}
	if !whole {
		return nil, far, api.ErrText
	}
	return numbers, 0, api.OK
}

// read is what the package says of a text of a kind: its numbers in their order.
func read(s string, kind int) ([]complex128, int, api.Errno) {
	switch kind {
	case ofZpk:
		f, at, e := text.ReadZpk(s)
		return slices.Concat([]complex128{f.Gain}, f.Zeros, f.Poles), at, e
	case ofFilter:
		f, at, e := text.ReadFilter(s)
		numbers := []complex128{f.Gain}
		for _, s := range f.Sections {
			numbers = append(numbers, trial.Row(s)...)
		}
		return numbers, at, e
	}
	a, at, e := text.Read(s)
	return []complex128{a}, at, e
}

// again is the text that the package writes of what it read.
func again(s string, kind int) (string, api.Errno) {
	switch kind {
	case ofZpk:
		f, _, _ := text.ReadZpk(s)
		return text.Zpk(f)
	case ofFilter:
		f, _, _ := text.ReadFilter(s)
		return text.Filter(f)
	}
	a, _, _ := text.Read(s)
	return text.Write(a), api.OK
}

// design is a filter of so many zeros and poles.
func design(m *trial.Mixer, zeros, poles int) api.Zpk {
	return api.Zpk{Gain: m.FiniteNumbers(1)[0], Zeros: m.FiniteNumbers(zeros), Poles: m.FiniteNumbers(poles)}
}

// sections is a filter of so many sections.
func sections(m *trial.Mixer, n int) api.Filter {
	f := api.Filter{Gain: m.FiniteNumbers(1)[0]}
	for range n {
		f.Sections = append(f.Sections, trial.Section(m.FiniteNumbers(5)))
	}
	return f
}
