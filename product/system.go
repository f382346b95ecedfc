package product

import (
	"slices"

	"parole/api"
	"parole/machine"
)

// A system is a state that goes on, with the runs of its threads: only that of a thread that does something is made anew.
type system struct {
	p      api.Program
	inputs [][]int
	does   map[int]operation
	runs   []api.Run
	s      api.State
}

// begin returns the system at first.
func begin(p api.Program, inputs [][]int) *system {
	s := api.State{
		Answers: make([][]api.Answer, len(p.Threads)),
		Held:    slices.Repeat([]int{nobody}, p.D.Locks),
		Queues:  make([][]api.Word, len(p.D.Queues)),
		Fed:     make([]int, len(p.D.Classes)),
	}
	for _, r := range p.D.Globals {
		s.Globals = append(s.Globals, firstWord(r))
	}
	y := resume(p, inputs, s)
	for t := range y.runs {
		y.log(t, 0)
	}
	y.settle()
	return y
}

// firstWord returns what a global is at first.
func firstWord(r api.Range) api.Word {
	if r.Lo <= 0 && 0 <= r.Hi {
		return api.Word{}
	}
	return api.Word{V: r.Lo}
}

// resume returns the system that goes on from a state, in which it changes lists.
func resume(p api.Program, inputs [][]int, s api.State) *system {
	y := &system{p: p, inputs: inputs, does: operations(), s: s}
	for t := range p.Threads {
		y.runs = append(y.runs, runOf(p, s, t))
	}
	return y
}

func runOf(p api.Program, s api.State, t int) api.Run {
	return machine.Run(p, p.Threads[t], nil, nil, s.Answers[t])
}

// copyOf returns a state whose lists can be changed, while others go on from s.
func copyOf(s api.State) api.State {
	s.Answers = copies(s.Answers)
	s.Held = slices.Clone(s.Held)
	s.Queues = copies(s.Queues)
	s.Globals = slices.Clone(s.Globals)
	s.Fed = slices.Clone(s.Fed)
	s.Log = slices.Clone(s.Log)
	return s
}

func copies[T any](l [][]T) [][]T {
	var out [][]T
	for _, x := range l {
		out = append(out, slices.Clone(x))
	}
	return out
}

// ready returns the threads whose next operation is possible.
func (y *system) ready() []int {
	var l []int
	for t := range y.runs {
		if y.isReady(t) {
			l = append(l, t)
		}
	}
	return l
}

// isReady rests on Next being zero for a thread that does not wait: there is no such operation.
func (y *system) isReady(t int) bool {
	next := y.runs[t].Next
	x, ok := y.does[next.Kind]
	return ok && y.s.Fail.Kind == 0 && x.isPossible(y, next.N)
}

// step does the next operation of a thread that is ready.
func (y *system) step(t int) {
	next := y.runs[t].Next
	w := y.does[next.Kind].do(y, t, next)
	y.s.Answers[t] = append(y.s.Answers[t], api.Answer{W: w})
	known := len(y.runs[t].Ev)
	y.runs[t] = runOf(y.p, y.s, t)
	y.log(t, known)
	y.settle()
}

// log puts the events of a thread at the end of Log, but for the first ones, which are known already.
func (y *system) log(t, known int) {
	for _, e := range y.runs[t].Ev[known:] {
		y.s.Log = append(y.s.Log, api.Logged{Thread: t, E: e})
	}
}
