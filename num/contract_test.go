package num_test

import (
	"math/big"
	"reflect"
	"slices"
	"testing"

	"parole/api"
	"parole/num"
)

// P1.1, A1.
func TestWrap(t *testing.T) {
	for _, c := range [][2]int{
		{0, 0}, {1, 1}, {-1, -1}, {hi, hi}, {lo, lo}, {hi + 1, lo}, {lo - 1, hi}, {1 << 32, 0}, {1<<32 - 1, -1}, {1<<32 + 1, 1}, {-1 << 32, 0}, {-1<<32 - 1, -1}, {3<<31 + 5, lo + 5}, {1<<63 - 1, -1}, {-1 << 63, 0},
	} {
		if v := num.Wrap(c[0]); v != c[1] {
			t.Errorf("Wrap(%d) is %d, not %d", c[0], v, c[1])
		}
	}
}

// P1.1, A1: the only value that differs by a multiple of 2^32.
func TestWrapDiffersByMultiples(t *testing.T) {
	m := newMaker(1)
	for range 2000 {
		v := int(m.r.Uint64())
		if w := num.Wrap(v); w < lo || w > hi || uint64(v-w)%(1<<32) != 0 {
			t.Fatalf("Wrap(%d) is %d", v, w)
		}
	}
}

// P1.1, A1.
func TestOp(t *testing.T) {
	for _, c := range []struct{ op, a, b, want int }{
		{api.EAdd, 2, 3, 5}, {api.EAdd, hi, 1, lo}, {api.EAdd, lo, -1, hi}, {api.EAdd, lo, lo, 0},
		{api.ESub, 3, 5, -2}, {api.ESub, lo, 1, hi}, {api.ESub, 0, lo, lo},
		{api.EMul, -3, 7, -21}, {api.EMul, 1 << 16, 1 << 16, 0}, {api.EMul, 1 << 16, 1 << 15, lo}, {api.EMul, lo, lo, 0}, {api.EMul, lo, -1, lo}, {api.EMul, hi, hi, 1},
		{api.EDiv, 7, 2, 3}, {api.EDiv, -7, 2, -3}, {api.EDiv, 7, -2, -3}, {api.EDiv, -7, -2, 3}, {api.EDiv, 7, 0, 0}, {api.EDiv, lo, 0, 0}, {api.EDiv, lo, -1, lo}, {api.EDiv, 1, hi, 0},
		{api.EMod, 7, 2, 1}, {api.EMod, -7, 2, -1}, {api.EMod, 7, -2, 1}, {api.EMod, -7, -2, -1}, {api.EMod, 7, 0, 7}, {api.EMod, lo, 0, lo}, {api.EMod, lo, -1, 0}, {api.EMod, 6, 3, 0},
		{api.EMin, 3, -4, -4}, {api.EMin, -4, 3, -4}, {api.EMin, lo, hi, lo}, {api.EMin, 5, 5, 5},
		{api.EMax, 3, -4, 3}, {api.EMax, -4, 3, 3}, {api.EMax, lo, hi, hi}, {api.EMax, 5, 5, 5},
	} {
		if v := num.Op(c.op, c.a, c.b); v != c.want {
			t.Errorf("Op(%d, %d, %d) is %d, not %d", c.op, c.a, c.b, v, c.want)
		}
	}
}

// P1.1, A1: operators that there are not.
func TestOpOfNoOperator(t *testing.T) {
	for _, op := range noOperators {
		if v := num.Op(op, 5, 3); v != 0 {
			t.Errorf("Op(%d, 5, 3) is %d", op, v)
		}
	}
}

// P1.1, A1: numbers beyond 32 bits are wrapped ahead of the operator.
func TestOpWrapsOperands(t *testing.T) {
	for _, op := range operators {
		for _, a := range edges {
			for _, b := range edges {
				want := num.Op(op, a, b)
				for _, k := range []int{1, -1, 1 << 30, -1 << 30} {
					if v := num.Op(op, a+k<<32, b); v != want {
						t.Fatalf("Op(%d, %d, %d) is %d, not %d", op, a+k<<32, b, v, want)
					}
					if v := num.Op(op, a, b+k<<32); v != want {
						t.Fatalf("Op(%d, %d, %d) is %d, not %d", op, a, b+k<<32, v, want)
					}
				}
			}
		}
	}
}

// exact computes without a bound on the size of numbers, and wraps at the end.
func exact(op, a, b int) int {
	x, y, z := big.NewInt(int64(a)), big.NewInt(int64(b)), new(big.Int)
	switch op {
	case api.EAdd:
		z.Add(x, y)
	case api.ESub:
		z.Sub(x, y)
	case api.EMul:
		z.Mul(x, y)
	case api.EDiv:
		if b != 0 {
			z.Quo(x, y)
		}
	case api.EMod:
		z.Set(x)
		if b != 0 {
			z.Rem(x, y)
		}
	case api.EMin, api.EMax:
		z.Set(x)
		if x.Cmp(y) > 0 == (op == api.EMin) {
			z.Set(y)
		}
	}
	return int(int32(z.Mod(z, big.NewInt(1<<32)).Int64()))
}

// P1.1, A1: against integers of any size.
func TestOpIsExact(t *testing.T) {
	m := newMaker(2)
	for _, op := range operators {
		for range 2000 {
			a, b := m.value(), m.value()
			if v := num.Op(op, a, b); v != exact(op, a, b) {
				t.Fatalf("Op(%d, %d, %d) is %d, not %d", op, a, b, v, exact(op, a, b))
			}
		}
	}
}

// P1.1, A2.
func TestEval(t *testing.T) {
	vars, lens := []int{10, -3, 1<<32 + 1, hi + 1}, []int{4, 1<<32 + 9}
	one := []api.Expr{number(1), number(1)}
	for i, c := range []struct {
		e    api.Expr
		want int
	}{
		{number(5), 5}, {number(hi + 1), lo}, {number(lo - 1), hi},
		{variable(0), 10}, {variable(1), -3}, {variable(2), 1}, {variable(3), lo}, {variable(4), 0}, {variable(-1), 0}, {variable(1 << 32), 0}, {variable(-1 << 63), 0}, {variable(1<<63 - 1), 0},
		{length(0), 4}, {length(1), 9}, {length(2), 0}, {length(-1), 0}, {length(1 << 32), 0},
		{api.Expr{Op: api.ENum, N: 1, V: 8, A: one}, 8}, {api.Expr{Op: api.EVar, N: 1, V: 8, A: one}, -3}, {api.Expr{Op: api.ELen, N: 0, V: 8, A: one}, 4},
		{expr(api.EAdd, variable(0), variable(1)), 7}, {expr(api.ESub, variable(0), variable(1)), 13}, {expr(api.EMul, variable(0), variable(1)), -30}, {expr(api.EDiv, variable(0), variable(1)), -3}, {expr(api.EMod, variable(0), variable(1)), 1}, {expr(api.EMin, variable(0), variable(1)), -3}, {expr(api.EMax, variable(0), variable(1)), 10},
		{expr(api.EAdd, number(hi), number(1)), lo}, {expr(api.EDiv, number(lo), number(-1)), lo}, {expr(api.EMod, number(lo), number(-1)), 0},
		{expr(api.EMul, variable(1), expr(api.EAdd, variable(0), length(0))), -42},
		{expr(api.EAdd, expr(api.EAdd, number(hi), number(1)), number(-1)), hi},
		{expr(api.EAdd), 0}, {expr(api.EAdd, number(6)), 6}, {expr(api.ESub, number(6)), 6}, {expr(api.EMul, number(6)), 0}, {expr(api.EDiv, number(6)), 0}, {expr(api.EMod, number(6)), 6}, {expr(api.EMin, number(6)), 0}, {expr(api.EMax, number(-6)), 0},
		{expr(api.EAdd, number(1), number(2), number(4)), 3}, {api.Expr{Op: api.EAdd, N: 1, V: 8, A: one}, 2},
		{api.Expr{}, 0},
	} {
		if v := num.Eval(c.e, vars, lens); v != c.want {
			t.Errorf("case %d: %d, not %d", i, v, c.want)
		}
	}
}

// P1.1, A2: operators that there are not, and no elements at all.
func TestEvalWithout(t *testing.T) {
	for _, op := range noOperators {
		if op == api.ENum {
			continue
		}
		e := api.Expr{Op: op, N: 0, V: 8, A: []api.Expr{number(1), number(2)}}
		if v := num.Eval(e, nil, nil); v != 0 {
			t.Errorf("operator %d: %d", op, v)
		}
	}
}

// P1.1, A2: an expression with an operator has the result of Op for the values of its operands.
func TestEvalIsOp(t *testing.T) {
	m := newMaker(3)
	for range 2000 {
		vars, lens := m.values(4), m.values(3)
		a, b := m.expr(4), m.expr(4)
		op := operators[m.r.Intn(len(operators))]
		want := num.Op(op, num.Eval(a, vars, lens), num.Eval(b, vars, lens))
		if v := num.Eval(expr(op, a, b), vars, lens); v != want {
			t.Fatalf("operator %d: %d, not %d", op, v, want)
		}
	}
}

// P1.1, A3.
func TestHolds(t *testing.T) {
	vars, lens := []int{10, -3, 1<<32 + 10}, []int{4}
	always, never := api.Cond{Op: api.CTrue}, api.Cond{}
	for i, c := range []struct {
		c    api.Cond
		want bool
	}{
		{always, true}, {api.Cond{Op: api.CTrue, A: []api.Expr{number(1)}, C: []api.Cond{never}}, true},
		{compare(api.CLt, variable(1), variable(0)), true}, {compare(api.CLt, variable(0), variable(1)), false}, {compare(api.CLt, variable(0), variable(2)), false}, {compare(api.CLt, number(lo), number(hi)), true}, {compare(api.CLt, number(hi), number(hi+1)), false}, {compare(api.CLt, length(0), variable(0)), true},
		{compare(api.CLe, variable(1), variable(0)), true}, {compare(api.CLe, variable(0), variable(1)), false}, {compare(api.CLe, variable(0), variable(2)), true}, {compare(api.CLe, number(hi), number(hi+1)), false},
		{compare(api.CEq, variable(1), variable(0)), false}, {compare(api.CEq, variable(0), variable(2)), true}, {compare(api.CEq, number(lo), number(hi+1)), true},
		{compare(api.CLt), false}, {compare(api.CLt, variable(1)), true}, {compare(api.CLt, variable(0)), false}, {compare(api.CLe), true}, {compare(api.CLe, variable(0)), false}, {compare(api.CEq), true}, {compare(api.CEq, variable(7)), true}, {compare(api.CEq, variable(0)), false},
		{compare(api.CLt, number(1), number(2), number(0)), true}, {compare(api.CEq, number(1), number(1), number(0)), true},
		{not(always), false}, {not(never), true}, {join(api.CNot), true}, {join(api.CNot, always, never), false}, {join(api.CNot, never, always), true},
		{and(always, always), true}, {and(always, never), false}, {and(never, always), false}, {and(never, never), false}, {join(api.CAnd), false}, {join(api.CAnd, always), false}, {join(api.CAnd, always, always, never), true},
		{or(always, always), true}, {or(always, never), true}, {or(never, always), true}, {or(never, never), false}, {join(api.COr), false}, {join(api.COr, always), true}, {join(api.COr, never), false}, {join(api.COr, never, never, always), false},
		{not(and(always, not(never))), false},
	} {
		if v := num.Holds(c.c, vars, lens); v != c.want {
			t.Errorf("case %d: %t", i, v)
		}
	}
}

// P1.1, A3: no other condition holds.
func TestHoldsOfNoOperator(t *testing.T) {
	always := api.Cond{Op: api.CTrue}
	for _, op := range []int{-1 << 63, -1, 0, 8, 9, 1<<32 + api.CTrue, 1<<63 - 1} {
		c := api.Cond{Op: op, A: []api.Expr{number(1), number(2)}, C: []api.Cond{always, always}}
		if num.Holds(c, []int{1}, []int{1}) {
			t.Errorf("operator %d holds", op)
		}
	}
}

// P1.1, A4 and A5.
func TestReadsAndDepth(t *testing.T) {
	more := []api.Expr{variable(5), variable(6)}
	for i, c := range []struct {
		e     api.Expr
		reads []int
		depth int
	}{
		{number(5), nil, 1}, {length(5), nil, 1}, {variable(0), []int{0}, 1}, {variable(900), []int{900}, 1}, {variable(1 << 40), []int{1 << 40}, 1}, {variable(-1), nil, 1},
		{api.Expr{Op: api.ENum, A: more}, nil, 1}, {api.Expr{Op: api.EVar, N: 2, A: more}, []int{2}, 1}, {api.Expr{Op: api.ELen, A: more}, nil, 1}, {api.Expr{Op: api.EAdd, N: 2}, nil, 1},
		{expr(0, more...), nil, 1}, {expr(11, more...), nil, 1}, {expr(-1, more...), nil, 1}, {api.Expr{}, nil, 1},
		{expr(api.EAdd, number(1), expr(api.EAdd, number(2), number(3))), nil, 3},
		{expr(api.ESub, variable(7), variable(3)), []int{3, 7}, 2}, {expr(api.EMul, variable(3), variable(3)), []int{3}, 2}, {expr(api.EMax, variable(3)), []int{3}, 2}, {expr(api.EMin), nil, 1},
		{expr(api.EDiv, variable(9), number(1), variable(4)), []int{9}, 2}, {expr(api.EMod, number(1), number(1), expr(api.EAdd, more...)), nil, 2},
		{expr(api.EAdd, expr(api.EMin, variable(4), expr(api.EMax, variable(-3), variable(1))), variable(2)), []int{1, 2, 4}, 4},
		{expr(api.EAdd, variable(2), expr(api.EMin, variable(4), variable(0))), []int{0, 2, 4}, 3},
	} {
		if l := num.Reads(c.e); !slices.Equal(l, c.reads) {
			t.Errorf("case %d: reads %v", i, l)
		}
		if d := num.Depth(c.e); d != c.depth {
			t.Errorf("case %d: depth %d", i, d)
		}
	}
}

// P1.1, A4 and A5.
func TestReadsCAndDepthC(t *testing.T) {
	more := []api.Expr{variable(5), expr(api.EAdd, variable(6), number(1))}
	some := compare(api.CLt, more...)
	other := compare(api.CEq, variable(8), variable(0))
	for i, c := range []struct {
		c     api.Cond
		reads []int
		depth int
	}{
		{api.Cond{}, nil, 1}, {api.Cond{Op: api.CTrue}, nil, 1}, {api.Cond{Op: api.CTrue, A: more, C: []api.Cond{some}}, nil, 1}, {api.Cond{Op: 8, A: more, C: []api.Cond{some}}, nil, 1}, {api.Cond{Op: -1, A: more, C: []api.Cond{some}}, nil, 1},
		{some, []int{5, 6}, 3}, {other, []int{0, 8}, 2}, {compare(api.CLe, more...), []int{5, 6}, 3}, {compare(api.CLe, more[1], more[0]), []int{5, 6}, 3}, {compare(api.CLe, more[0]), []int{5}, 2}, {compare(api.CLt), nil, 1},
		{compare(api.CEq, number(1), number(1), more[1]), nil, 2}, {api.Cond{Op: api.CLt, C: []api.Cond{some}}, nil, 1},
		{not(some), []int{5, 6}, 4}, {join(api.CNot), nil, 1}, {join(api.CNot, other, some), []int{0, 8}, 3}, {api.Cond{Op: api.CNot, A: more}, nil, 1},
		{and(some, other), []int{0, 5, 6, 8}, 4}, {or(other, some), []int{0, 5, 6, 8}, 4}, {or(some, some), []int{5, 6}, 4}, {join(api.CAnd, other), []int{0, 8}, 3}, {join(api.COr), nil, 1}, {join(api.COr, other, other, some), []int{0, 8}, 3}, {api.Cond{Op: api.CAnd, A: more}, nil, 1},
		{and(not(not(other)), api.Cond{Op: api.CTrue}), []int{0, 8}, 5},
	} {
		if l := num.ReadsC(c.c); !slices.Equal(l, c.reads) {
			t.Errorf("case %d: reads %v", i, l)
		}
		if d := num.DepthC(c.c); d != c.depth {
			t.Errorf("case %d: depth %d", i, d)
		}
	}
}

// P1.1, A6.
func TestArgumentsStay(t *testing.T) {
	m, n := newMaker(4), newMaker(4)
	for range 500 {
		e, c, vars, lens := m.expr(5), m.cond(5), m.values(4), m.values(2)
		e2, c2, vars2, lens2 := n.expr(5), n.cond(5), n.values(4), n.values(2)
		num.Eval(e, vars, lens)
		num.Holds(c, vars, lens)
		num.Depth(e)
		num.DepthC(c)
		for _, l := range [][]int{num.Reads(e), num.ReadsC(c)} {
			clear(l)
		}
		if !reflect.DeepEqual(e, e2) || !reflect.DeepEqual(c, c2) || !slices.Equal(vars, vars2) || !slices.Equal(lens, lens2) {
			t.Fatal("an argument has changed")
		}
	}
}

// P1 and P1.1: the promises hold up to 2^16 levels of nesting.
func TestDeepNesting(t *testing.T) {
	const levels = 1 << 16
	left, right := variable(0), variable(0)
	for i := 1; i < levels; i++ {
		left = expr(api.EAdd, left, variable(i))
		right = expr(api.EAdd, variable(levels-i), right)
	}
	vars := make([]int, levels)
	for i := range vars {
		vars[i] = 3
	}
	for _, e := range []api.Expr{left, right} {
		if v := num.Eval(e, vars, nil); v != 3*levels {
			t.Errorf("value %d", v)
		}
		if l := num.Reads(e); len(l) != levels || l[0] != 0 || l[levels-1] != levels-1 {
			t.Errorf("%d reads", len(l))
		}
		if d := num.Depth(e); d != levels {
			t.Errorf("depth %d", d)
		}
	}
	c := compare(api.CEq, variable(0), number(3))
	for i := 2; i < levels; i++ {
		c = not(c)
	}
	if !num.Holds(c, vars, nil) || num.DepthC(c) != levels || !slices.Equal(num.ReadsC(c), []int{0}) {
		t.Errorf("a deep condition: %t, depth %d, reads %v", num.Holds(c, vars, nil), num.DepthC(c), num.ReadsC(c))
	}
}
