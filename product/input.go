package product

import (
	"slices"

	"parole/api"
)

// maxInputs is the greatest number of inputs of a class.
const maxInputs = 1000

func areInputs(inputs [][]int, classes []api.Range) bool {
	if len(inputs) != len(classes) {
		return false
	}
	for i, r := range classes {
		isOutside := func(v int) bool { return v < r.Lo || v > r.Hi }
		if len(inputs[i]) > maxInputs || slices.ContainsFunc(inputs[i], isOutside) {
			return false
		}
	}
	return true
}
