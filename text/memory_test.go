package text_test

import (
	"slices"
	"testing"

	"quaver/api"
	"quaver/text"
	"quaver/trial"
)

func TestMemory(t *testing.T) {
	mix := trial.Mixer(535)
	f := design(&mix, 3, 2)
	zeros, poles := append(slices.Clone(f.Zeros), 77), append(slices.Clone(f.Poles), 78)
	text.Zpk(api.Zpk{Gain: f.Gain, Zeros: zeros[:3], Poles: poles[:2]})
	if !trial.AlikeNumbers(zeros, append(slices.Clone(f.Zeros), 77)) || !trial.AlikeNumbers(poles, append(slices.Clone(f.Poles), 78)) {
		t.Error("Memory: Zpk changed what it was given")
	}
	g := sections(&mix, 2)
	three := append(slices.Clone(g.Sections), api.Section{B0: 77})
	text.Filter(api.Filter{Gain: g.Gain, Sections: three[:2]})
	if !slices.EqualFunc(three, append(slices.Clone(g.Sections), api.Section{B0: 77}), trial.AlikeSection) {
		t.Error("Memory: Filter changed what it was given")
	}
	// The lists of an answer share nothing, with each other and with those of another.
	a, _, _ := text.ReadZpk(zpkText(f))
	b, _, _ := text.ReadZpk(zpkText(f))
	trial.ScrawlList(a.Zeros)
	if !trial.AlikeNumbers(a.Poles, f.Poles) || !trial.AlikeNumbers(b.Zeros, f.Zeros) {
		t.Error("Memory: ReadZpk answers lists that share memory")
	}
	trial.ScrawlList(b.Poles)
	if !trial.AlikeNumbers(a.Poles, f.Poles) || !trial.AlikeNumbers(b.Zeros, f.Zeros) {
		t.Error("Memory: ReadZpk answers lists that share memory")
	}
	c, _, _ := text.ReadFilter(filterText(g))
	d, _, _ := text.ReadFilter(filterText(g))
	clear(c.Sections[:cap(c.Sections)])
	if !slices.EqualFunc(d.Sections, g.Sections, trial.AlikeSection) {
		t.Error("Memory: ReadFilter answers lists that share memory")
	}
}
