package stream_test

import (
	"iter"
	"slices"
	"testing"

	"quaver/trial"
)

func TestSeq(t *testing.T) {
	mix := trial.Mixer(331)
	for round := range 40 {
		for _, g := range trial.Guards() {
			f := mix.Filter(round % 4)
			s, m := made(t, f, g), newTwin(f, g)
			for _, n := range []int{0, 1, 4, 2} {
				xs := mix.Samples(n)
				are(t, asked(t, s, xs), m.push(xs), "P20.7: Seq(%x) of %x, %v", xs, f, g)
				stands(t, s, m, "P20.7: behind Seq(%x) of %x, %v", xs, f, g)
			}
		}
	}
}

func TestSeqOfNone(t *testing.T) {
	s, m := made(t, half(), all), newTwin(half(), all)
	like(t, s, m, list(1))
	for _, xs := range [][]complex128{nil, {}} {
		for i, y := range s.Seq(xs) {
			t.Errorf("P20.7: Seq of none: %d, %v", i, y)
		}
	}
	stands(t, s, m, "P20.7: Seq of none")
}

func TestSeqIsNotRanged(t *testing.T) {
	s, m := made(t, half(), all), newTwin(half(), all)
	seq := s.Seq(list(1, 2))
	stands(t, s, m, "P20.7: Seq alone pushes nothing")
	like(t, s, m, list(5))
	for i, y := range seq {
		are(t, list(y), m.push(list(complex(float64(i+1), 0))), "P20.7: Seq, ranged over behind a Push")
	}
	stands(t, s, m, "P20.7: Seq, ranged over behind a Push")
}

func TestSeqPushesWhatIsAskedFor(t *testing.T) {
	mix := trial.Mixer(332)
	for _, g := range trial.Guards() {
		f, xs := mix.Filter(2), mix.Samples(6)
		s, m := made(t, f, g), newTwin(f, g)
		for i, y := range s.Seq(xs) {
			are(t, list(y), m.push(xs[i:i+1]), "P20.7: the answer at %d", i)
			stands(t, s, m, "P20.7: none behind the one that was asked for is pushed")
		}
		next, stop := iter.Pull2(s.Seq(xs))
		stands(t, s, m, "P20.7: none is asked for")
		for i := range 3 {
			place, y, ok := next()
			if place != i || !ok {
				t.Fatalf("P20.7: the place %d, %v, want %d", place, ok, i)
			}
			are(t, list(y), m.push(xs[i:i+1]), "P20.7: the answer that is pulled at %d", i)
			stands(t, s, m, "P20.7: pulled at %d", i)
		}
		stop()
		stands(t, s, m, "P20.7: pulled no more")
		like(t, s, m, xs)
	}
}

func TestSeqLeftEarly(t *testing.T) {
	mix := trial.Mixer(333)
	for n := range 6 {
		for leave := range n {
			for _, g := range trial.Guards() {
				f, xs := mix.Filter(n%3), mix.Samples(n)
				s, m := made(t, f, g), newTwin(f, g)
				var got []complex128
				for i, y := range s.Seq(xs) {
					got = append(got, y)
					if i == leave {
						break
					}
				}
				are(t, got, m.push(xs[:leave+1]), "P20.7: left at %d", leave)
				stands(t, s, m, "P20.7: left at %d", leave)
				// Told by the function itself: it is not called again.
				calls := 0
				s.Seq(xs)(func(int, complex128) bool {
					calls++
					return calls <= leave
				})
				m.push(xs[:leave+1])
				if calls != leave+1 {
					t.Fatalf("P20.7: called %d times, left at %d", calls, leave)
				}
				like(t, s, m, xs)
			}
		}
	}
}

func TestSeqTwice(t *testing.T) {
	mix := trial.Mixer(334)
	for _, g := range trial.Guards() {
		f, xs := mix.Filter(2), mix.Samples(5)
		s, m := made(t, f, g), newTwin(f, g)
		seq := s.Seq(xs)
		for leave := range len(xs) + 1 {
			// Left early or not: the next time it begins in front.
			var got []complex128
			for i, y := range seq {
				if got = append(got, y); i != len(got)-1 {
					t.Fatalf("P20.7: the place %d, want %d", i, len(got)-1)
				}
				if i == leave {
					break
				}
			}
			are(t, got, m.push(xs[:min(leave+1, len(xs))]), "P20.7: ranged over again, left at %d", leave)
			stands(t, s, m, "P20.7: ranged over again, left at %d", leave)
		}
	}
}

func TestSeqOfAListThatChanges(t *testing.T) {
	mix := trial.Mixer(335)
	f, was := mix.Filter(2), mix.Numbers(6, mix.Middle)
	s, m := made(t, f, all), newTwin(f, all)
	xs := append(slices.Clone(was), 77, 78)[:6]
	seq := s.Seq(xs)
	trial.ScrawlList(xs)
	for range 2 {
		for i, y := range seq {
			are(t, list(y), m.push(was[i:i+1]), "P20.7: the list is as it was, at %d", i)
			trial.ScrawlList(xs)
		}
	}
	stands(t, s, m, "P20.7: the list is as it was")
	// Changed between two answers.
	xs = slices.Clone(was)
	for i, y := range s.Seq(xs) {
		are(t, list(y), m.push(was[i:i+1]), "P20.7: the list is as it was, at %d", i)
		trial.ScrawlList(xs)
	}
	// And it is not changed itself.
	xs = append(slices.Clone(was), 77, 78)
	asked(t, s, xs[:6])
	are(t, xs, append(slices.Clone(was), 77, 78), "Memory: the list behind Seq")
}

func TestSeqBetweenTwoAnswers(t *testing.T) {
	mix := trial.Mixer(336)
	for round := range 20 {
		for _, g := range trial.Guards() {
			f, xs, ys := mix.Filter(round%3), mix.Samples(4), mix.Samples(3)
			s, m := made(t, f, g), newTwin(f, g)
			other := s.Seq(ys)
			for i, y := range s.Seq(xs) {
				are(t, list(y), m.push(xs[i:i+1]), "P20.7: the answer at %d", i)
				switch mix.Below(5) {
				case 0:
					like(t, s, m, ys)
				case 1:
					are(t, asked(t, s, ys), m.push(ys), "P20.7: another Seq in between")
				case 2:
					for j, z := range other {
						are(t, list(z), m.push(ys[j:j+1]), "P20.7: another Seq in between, at %d", j)
						if j == 1 {
							break
						}
					}
				case 3:
					s.Fork().Push(ys)
					loaded(t, s.Save()).Push(ys)
				}
				stands(t, s, m, "P20.7: between two answers")
			}
			stands(t, s, m, "P20.7: behind the last answer")
		}
	}
}

func TestSeqsThatTakeTurns(t *testing.T) {
	mix := trial.Mixer(337)
	f, xs, ys := mix.Filter(3), mix.Samples(4), mix.Samples(4)
	s, m := made(t, f, all), newTwin(f, all)
	next, stop := iter.Pull2(s.Seq(xs))
	defer stop()
	for i, y := range s.Seq(ys) {
		are(t, list(y), m.push(ys[i:i+1]), "P20.7: two that take turns, at %d", i)
		place, z, ok := next()
		if place != i || !ok {
			t.Fatalf("P20.7: the place %d, %v, want %d", place, ok, i)
		}
		are(t, list(z), m.push(xs[i:i+1]), "P20.7: two that take turns, at %d", i)
	}
	// One and the same, inside itself.
	seq := s.Seq(xs[:2])
	for i, y := range seq {
		are(t, list(y), m.push(xs[i:i+1]), "P20.7: outside, at %d", i)
		for j, z := range seq {
			are(t, list(z), m.push(xs[j:j+1]), "P20.7: inside, at %d", j)
		}
	}
	stands(t, s, m, "P20.7: one inside itself")
}

func TestSeqOfTheForkedStream(t *testing.T) {
	// A sequence pushes into the stream that it is of, not into one that was forked since.
	s, m := made(t, half(), none), newTwin(half(), none)
	seq := s.Seq(list(1, 2))
	fork, other := s.Fork(), newTwin(half(), none)
	for i, y := range seq {
		are(t, list(y), m.push(list(complex(float64(i+1), 0))), "P20.7: the answer at %d", i)
	}
	stands(t, fork, other, "P20.7: the fork")
	stands(t, s, m, "P20.7: the stream")
}

func TestSeqThatPanics(t *testing.T) {
	// What the loop's own body does is its affair; the samples that came stay pushed.
	s, m := made(t, half(), none), newTwin(half(), none)
	func() {
		defer func() {
			if recover() == nil {
				t.Error("the body's panic is gone")
			}
		}()
		for range s.Seq(list(1, 2, 3)) {
			panic("left")
		}
	}()
	m.push(list(1))
	stands(t, s, m, "P20.7: left by a panic")
	like(t, s, m, list(4, 5i))
}
