package bank

import (
	"sync"

	"quaver/api"
	"quaver/cascade"
)

// pass hands on a filter's answers, a sample at a time.
func pass(c *cascade.Cascade, in <-chan complex128, out chan<- complex128) {
	for x := range in {
		out <- c.Step(x)
	}
	close(out)
}

// feed hands over samples, one behind the other.
func feed(list []complex128, out chan<- complex128) {
	for _, x := range list {
		out <- x
	}
	close(out)
}

// Pipe: samples through filters one behind the other, each a goroutine of its own, a sample at a time.
func Pipe(filters []api.Filter, list []complex128) ([]complex128, api.Errno) {
	works, e := atRest(filters)
	if e != api.OK {
		return nil, e
	}
	var group sync.WaitGroup
	last := make(chan complex128)
	first := last
	for _, c := range works {
		in, out := last, make(chan complex128)
		group.Go(func() { pass(c, in, out) })
		last = out
	}
	group.Go(func() { feed(list, first) })
	answers := make([]complex128, 0, len(list))
	for y := range last {
		answers = append(answers, y)
	}
	group.Wait()
	return answers, api.OK
}

// Turn is a sample that is handed to one filter of several.
type Turn struct {
	Filter int
	X      complex128
}

// player is a filter that is a goroutine of its own: samples go in, and its answers come out in their order.
type player struct {
	in, out chan complex128
}

// Play: filters, each a goroutine of its own, that take turns as a list says.
func Play(filters []api.Filter, turns []Turn) ([]complex128, api.Errno) {
	works, e := atRest(filters)
	if e != api.OK {
		return nil, e
	}
	for _, t := range turns {
		if t.Filter < 0 || t.Filter >= len(works) {
			return nil, api.ErrRange
		}
	}
	var group sync.WaitGroup
	players := make([]player, len(works))
	for i, c := range works {
		p := player{make(chan complex128), make(chan complex128)}
		group.Go(func() { pass(c, p.in, p.out) })
		players[i] = p
	}
	group.Go(func() { deal(players, turns) })
	// Nobody waits for ever: the answers are taken in the order in which the turns are dealt.
	answers := make([]complex128, len(turns))
	for i, t := range turns {
		answers[i] = <-players[t.Filter].out
	}
	group.Wait()
	return answers, api.OK
}

// deal hands each turn's sample to its filter, in the turns' order.
func deal(players []player, turns []Turn) {
	for _, t := range turns {
		players[t.Filter].in <- t.X
	}
	for _, p := range players {
		close(p.in)
	}
}
