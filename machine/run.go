package machine

import (
	"parole/api"
	"parole/shape"
)

// A run is what the activations of a run share, and what comes out of it. The cost of all that is executed is in out.Cost.
type run struct {
	p       api.Program
	does    map[int]func(*activation, api.Stmt)
	answers []api.Answer // those that are left
	parts   int          // those that are loaded, as bits
	held    int          // the locks that activations that are not over have taken, as bits
	out     api.Run
	watched int // the site of the looks; no statement has the site 0
	looks   []api.Look
}

// ended is the panic that ends a run.
type ended struct{}

// thrown is the panic of an exception: its number, which is never 0.
type thrown int

func newRun(p api.Program, l []api.Answer) *run {
	return &run{p: p, does: operations(), answers: l}
}

// perform executes a definition until the run has ended. Anything else that stops it comes from a program that is not right; nothing comes out of this.
func (r *run) perform(id int, args, given []api.Word) {
	defer func() {
		if _, ok := recover().(ended); !ok {
			r.out, r.looks = api.Run{}, nil
		}
	}()
	d, open := shape.Find(r.p, id)
	if !open {
		return
	}
	r.addPart(0)
	r.addPart(d.Part)
	w, number := r.activate(d, args, given).live()
	if number != 0 {
		r.out.Throw = number
		r.end(api.HThrow)
	}
	r.out.W = w
	r.end(api.HEnd)
}

func (r *run) end(how int) {
	r.out.How = how
	panic(ended{})
}

// check ends the run with a failure unless all is well.
func (r *run) check(well bool, site, kind int) {
	if !well {
		r.out.Fail = api.Failure{Site: site, Kind: kind}
		r.end(api.HFail)
	}
}

func (r *run) addPart(part int) { r.parts |= 1 << part }

func (r *run) isLoaded(part int) bool { return r.parts&(1<<part) != 0 }

// answer takes the next answer, which an operation needs.
func (r *run) answer(e api.Event) api.Answer {
	if len(r.answers) == 0 {
		r.out.Next = e
		r.end(api.HWait)
	}
	x := r.answers[0]
	r.answers = r.answers[1:]
	r.out.Used++
	return x
}

func (r *run) show(e api.Event) { r.out.Ev = append(r.out.Ev, e) }
