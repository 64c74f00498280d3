package tests

import (
	"math"

	"loop.example/gaussnumbers/impl"
)

// edgeParts are valid parts: small ones, those about the square root of the greatest part, and the greatest ones.
var edgeParts = []int{-1000, -999, -501, -500, -32, -31, -10, -3, -2, -1, 0, 1, 2, 3, 9, 10, 31, 32, 99, 100, 500, 501, 999, 1000}

// wrongParts are out of bounds: just past them, where a sum is in bounds again, and where arithmetic of ints wraps around.
var wrongParts = []int{-1001, 1001, -2000, 1500, 1 << 31, 1 << 32, -1 << 32, 1 << 62, math.MinInt, math.MinInt + 1, math.MaxInt}

func pairsOf(first, second []int) []impl.Gauss {
	var list []impl.Gauss
	for _, a := range first {
		for _, b := range second {
			list = append(list, impl.Gauss{A: a, B: b})
		}
	}
	return list
}

// sampleNumbers are valid numbers, 0 and numbers with one part alone among them.
func sampleNumbers() []impl.Gauss {
	return pairsOf(edgeParts, edgeParts)
}

// fewNumbers are valid numbers for tests of three at once.
func fewNumbers() []impl.Gauss {
	parts := []int{-1000, -30, -2, -1, 0, 1, 3, 17, 999}
	return pairsOf(parts, parts)
}

// wrongNumbers are no numbers: the first part, the second one, or both are out of bounds.
func wrongNumbers() []impl.Gauss {
	some := []int{-1000, -1, 0, 1, 500}
	list := append(pairsOf(wrongParts, some), pairsOf(some, wrongParts)...)
	return append(list, pairsOf(wrongParts, wrongParts)...)
}

// inBounds is told apart from GaussOk, so that tests do not rest on it.
func inBounds(a, b int) bool {
	return a >= -1000 && a <= 1000 && b >= -1000 && b <= 1000
}
