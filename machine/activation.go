package machine

import (
	"slices"

	"parole/api"
	"parole/num"
)

// An array has room for all elements that there may be, of which only those within its length are used.
type array struct {
	elements [api.MaxLen]int
	mask     int
}

// A reference has a record with a field, or is null.
type reference struct {
	has   bool
	field api.Word
}

// An activation has the words of its variables as values and masks, as num.Eval needs the values alone.
type activation struct {
	*run
	d      api.Def
	values [api.MaxVars]int
	masks  [api.MaxVars]int
	lens   []int
	arrays []array
	refs   [api.MaxRefs]reference
	locks  int // those that it has taken, as bits
	before int // the cost of the run when it began
	over   bool
	result api.Word
}

func (r *run) activate(d api.Def, args, given []api.Word) *activation {
	a := &activation{run: r, d: d, lens: Lens(d, args), arrays: make([]array, len(d.Arrays)), before: r.out.Cost}
	for i, w := range args {
		a.assign(i, w)
	}
	for i, w := range given {
		a.refs[i] = reference{true, w}
	}
	return a
}

// live executes the activation until it ends, and returns its result, or the number of the exception that ends it.
func (a *activation) live() (api.Word, int) {
	number := a.catch(a.d.Body)
	end := a.d.Site
	a.see(end)
	for _, r := range a.refs {
		a.check(!r.has, end, api.KLeak)
	}
	a.check(a.locks == 0, end, api.KHeld)
	a.check(a.out.Cost-a.before <= a.d.Budget, end, api.KCost)
	return a.result, number
}

// catch executes statements, and returns the number of the exception that leaves them; 0 if there is none.
func (a *activation) catch(l []api.Stmt) (number int) {
	defer func() {
		switch x := recover().(type) {
		case nil:
		case thrown:
			number = int(x)
		default:
			panic(x)
		}
	}()
	a.execute(l)
	return 0
}

func (a *activation) execute(l []api.Stmt) {
	for _, s := range l {
		a.begin(s.Site)
		a.does[s.Op](a, s)
		if a.over {
			return
		}
	}
}

// begin is called whenever a statement is about to be executed.
func (a *activation) begin(site int) {
	if a.out.Cost == api.MaxFuel {
		a.end(api.HFuel)
	}
	a.out.Cost++
	a.see(site)
}

func (a *activation) see(site int) {
	if site == a.watched {
		a.looks = append(a.looks, api.Look{Vars: slices.Clone(a.values[:a.d.Vars]), Lens: slices.Clone(a.lens)})
	}
}

func (a *activation) assign(n int, w api.Word) { a.values[n], a.masks[n] = w.V, w.Mask }

func (a *activation) value(e api.Expr) int { return num.Eval(e, a.values[:], a.lens) }

func (a *activation) word(e api.Expr) api.Word {
	w := api.Word{V: a.value(e)}
	for _, n := range num.Reads(e) {
		w.Mask |= a.masks[n]
	}
	return w
}

func (a *activation) holds(c api.Cond) bool { return num.Holds(c, a.values[:], a.lens) }

func isIn(w api.Word, r api.Range) bool {
	return r.Lo <= w.V && w.V <= r.Hi && areWithin(w.Mask, r.Mask)
}

func areWithin(classes, mask int) bool { return classes&^mask == 0 }
