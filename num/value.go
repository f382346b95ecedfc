package num

import "parole/api"

func quotient(a, b int) int {
	if b == 0 {
		return 0
	}
	return a / b
}

// values returns the values of two operands; one that is missing has the value 0.
func values(l []api.Expr, vars, lens []int) (int, int) {
	a, b := 0, 0
	if len(l) > 0 {
		a = Eval(l[0], vars, lens)
	}
	if len(l) > 1 {
		b = Eval(l[1], vars, lens)
	}
	return a, b
}

func element(l []int, n int) int {
	if n < 0 || n >= len(l) {
		return 0
	}
	return Wrap(l[n])
}
