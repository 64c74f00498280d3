package tests

import (
	"math"
	"slices"
	"testing"

	"loop.example/gaussnumbers/impl"
)

// wrongNorms are whole numbers out of 0..MaxNorm: with the other sign, just past it, squares and sums of two past it, and where an int is cut off.
var wrongNorms = []int{-1, -2, -4, -5, -25, -2000, 2001, 2002, 2005, 2017, 2025, 4000, 1<<31 - 1, 1 << 32, 1<<32 + 1, 1<<32 + 5, -1<<32 + 5, 1 << 62, math.MinInt, math.MinInt + 1, math.MaxInt}

// circlesTold are, at each norm up to 2000, all numbers with it in the order of NumbersOf, told apart from the program.
func circlesTold() [2001][]impl.Gauss {
	var circles [2001][]impl.Gauss
	list := smallNumbers(45)
	slices.SortFunc(list, byFirstParts)
	for _, z := range list {
		if norm := normOf(z); norm <= 2000 {
			circles[norm] = append(circles[norm], z)
		}
	}
	return circles
}

// divisorsTold is four times as many divisors of n as leave 1, less those that leave 3.
func divisorsTold(n int) int {
	told := 0
	for d := 1; d <= n; d++ {
		if n%d == 0 && d%4 == 1 {
			told += 4
		}
		if n%d == 0 && d%4 == 3 {
			told -= 4
		}
	}
	return told
}

// Promise 46.

func TestNumbersOfANorm(t *testing.T) {
	for _, c := range []struct {
		n    int
		want []impl.Gauss
	}{
		{1, []impl.Gauss{{A: -1}, {B: -1}, {B: 1}, {A: 1}}},
		{2, []impl.Gauss{{A: -1, B: -1}, {A: -1, B: 1}, {A: 1, B: -1}, {A: 1, B: 1}}},
		{5, []impl.Gauss{{A: -2, B: -1}, {A: -2, B: 1}, {A: -1, B: -2}, {A: -1, B: 2}, {A: 1, B: -2}, {A: 1, B: 2}, {A: 2, B: -1}, {A: 2, B: 1}}},
		{8, []impl.Gauss{{A: -2, B: -2}, {A: -2, B: 2}, {A: 2, B: -2}, {A: 2, B: 2}}},
		{18, []impl.Gauss{{A: -3, B: -3}, {A: -3, B: 3}, {A: 3, B: -3}, {A: 3, B: 3}}},
		// Squares, with and without further ones than on the lines.
		{4, []impl.Gauss{{A: -2}, {B: -2}, {B: 2}, {A: 2}}},
		{9, []impl.Gauss{{A: -3}, {B: -3}, {B: 3}, {A: 3}}},
		{25, []impl.Gauss{{A: -5}, {A: -4, B: -3}, {A: -4, B: 3}, {A: -3, B: -4}, {A: -3, B: 4}, {B: -5}, {B: 5}, {A: 3, B: -4}, {A: 3, B: 4}, {A: 4, B: -3}, {A: 4, B: 3}, {A: 5}}},
		{1936, []impl.Gauss{{A: -44}, {B: -44}, {B: 44}, {A: 44}}},
		{65, []impl.Gauss{{A: -8, B: -1}, {A: -8, B: 1}, {A: -7, B: -4}, {A: -7, B: 4}, {A: -4, B: -7}, {A: -4, B: 7}, {A: -1, B: -8}, {A: -1, B: 8}, {A: 1, B: -8}, {A: 1, B: 8}, {A: 4, B: -7}, {A: 4, B: 7}, {A: 7, B: -4}, {A: 7, B: 4}, {A: 8, B: -1}, {A: 8, B: 1}}},
		// Primes that leave 3, once, twice and three times.
		{3, nil},
		{7, nil},
		{49, []impl.Gauss{{A: -7}, {B: -7}, {B: 7}, {A: 7}}},
		{27, nil},
		{343, nil},
		{6, nil},
		{21, nil},
		{12, nil},
		// The greatest norm, and numbers just below it.
		{2000, []impl.Gauss{{A: -44, B: -8}, {A: -44, B: 8}, {A: -40, B: -20}, {A: -40, B: 20}, {A: -20, B: -40}, {A: -20, B: 40}, {A: -8, B: -44}, {A: -8, B: 44}, {A: 8, B: -44}, {A: 8, B: 44}, {A: 20, B: -40}, {A: 20, B: 40}, {A: 40, B: -20}, {A: 40, B: 20}, {A: 44, B: -8}, {A: 44, B: 8}}},
		{1999, nil},
		{1998, nil},
		{1997, []impl.Gauss{{A: -34, B: -29}, {A: -34, B: 29}, {A: -29, B: -34}, {A: -29, B: 34}, {A: 29, B: -34}, {A: 29, B: 34}, {A: 34, B: -29}, {A: 34, B: 29}}},
		{1994, []impl.Gauss{{A: -37, B: -25}, {A: -37, B: 25}, {A: -25, B: -37}, {A: -25, B: 37}, {A: 25, B: -37}, {A: 25, B: 37}, {A: 37, B: -25}, {A: 37, B: 25}}},
		{0, nil},
		{-1, nil},
		{2001, nil},
		{2005, nil},
	} {
		if got := impl.NumbersOf(c.n); !slices.Equal(got, c.want) {
			t.Error(c, got)
		}
	}
}

func TestNumbersOfEachNormAreCountedByDivisors(t *testing.T) {
	circles := circlesTold()
	for n := 1; n <= 2000; n++ {
		got := impl.NumbersOf(n)
		if !slices.Equal(got, circles[n]) || len(got) != impl.CountOf(n) || len(got) != divisorsTold(n) {
			t.Fatal(n, got)
		}
		for _, z := range got {
			if impl.NormOf(z) != n || !slices.Contains(got, impl.OverOf(z)) {
				t.Fatal(n, z)
			}
			for times := range 4 {
				if !slices.Contains(got, impl.TurnedBy(z, times)) {
					t.Fatal(n, z, times)
				}
			}
		}
	}
}

func TestNumbersOfANormAreNewEachTime(t *testing.T) {
	first := impl.NumbersOf(65)
	want := slices.Clone(first)
	for n := range first {
		first[n] = impl.Gauss{A: 77}
	}
	if got := impl.NumbersOf(65); !slices.Equal(got, want) {
		t.Error(got)
	}
}

func TestNumbersOfWrongNorms(t *testing.T) {
	for _, n := range append(wrongNorms, 0) {
		if got := impl.NumbersOf(n); got != nil {
			t.Error(n, got)
		}
	}
}

// Promise 47.

func TestCounts(t *testing.T) {
	for _, c := range []struct{ n, want int }{
		{1, 4}, {2, 4}, {3, 0}, {4, 4}, {5, 8}, {6, 0}, {7, 0}, {8, 4}, {9, 4}, {10, 8}, {13, 8}, {15, 0}, {16, 4}, {18, 4}, {19, 0}, {21, 0}, {32, 4}, {45, 8}, {50, 12}, {63, 0}, {65, 16}, {1024, 4},
		// Squares.
		{25, 12}, {36, 4}, {49, 4}, {81, 4}, {100, 12}, {121, 4}, {169, 12}, {225, 12}, {361, 4}, {441, 4}, {625, 20}, {900, 12}, {961, 4}, {1225, 12}, {1681, 12}, {1849, 4}, {1936, 4},
		// Primes that leave 3, three times and more, and both once.
		{27, 0}, {243, 0}, {343, 0}, {1331, 0}, {75, 0}, {147, 0}, {637, 8},
		// The most that there are.
		{325, 24}, {1105, 32}, {1625, 32}, {1885, 32},
		{1994, 8}, {1995, 0}, {1996, 0}, {1997, 8}, {1998, 0}, {1999, 0}, {2000, 16},
		{0, -1}, {-1, -1}, {-5, -1}, {2001, -1}, {2005, -1}, {2025, -1},
	} {
		if got := impl.CountOf(c.n); got != c.want {
			t.Error(c, got)
		}
	}
}

func TestCountsAreMultiplesOfFour(t *testing.T) {
	circles := circlesTold()
	for n := 1; n <= 2000; n++ {
		got := impl.CountOf(n)
		if got%4 != 0 || got < 0 || got != len(circles[n]) || got != divisorsTold(n) {
			t.Fatal(n, got)
		}
	}
}

// apartWholes reports whether no whole number but 1 divides both.
func apartWholes(n, m int) bool {
	for d := 2; d <= min(n, m); d++ {
		if n%d == 0 && m%d == 0 {
			return false
		}
	}
	return true
}

func TestAFourthOfCountsIsMultiplied(t *testing.T) {
	for n := 1; n <= 2000; n++ {
		for m := 1; n*m <= 2000; m++ {
			if !apartWholes(n, m) {
				continue
			}
			if 4*impl.CountOf(n*m) != impl.CountOf(n)*impl.CountOf(m) {
				t.Fatal(n, m, impl.CountOf(n*m))
			}
		}
	}
}

func TestCountsOfWrongNorms(t *testing.T) {
	for _, n := range append(wrongNorms, 0) {
		if got := impl.CountOf(n); got != -1 {
			t.Error(n, got)
		}
	}
}

// Promise 48.

func TestSumsOfTwoSquares(t *testing.T) {
	for _, c := range []struct {
		n    int
		want bool
	}{
		{1, true}, {2, true}, {4, true}, {5, true}, {8, true}, {10, true}, {13, true}, {16, true}, {20, true}, {65, true}, {1024, true},
		// Primes that leave 3, once, twice, three times, and four times.
		{3, false}, {7, false}, {11, false}, {43, false}, {6, false}, {12, false}, {15, false}, {39, false}, {1983, false},
		{9, true}, {18, true}, {45, true}, {49, true}, {98, true}, {121, true}, {961, true}, {1849, true}, {1922, true}, {637, true},
		{27, false}, {54, false}, {135, false}, {343, false}, {686, false}, {1331, false}, {1715, false},
		{81, true}, {162, true}, {405, true}, {243, false}, {729, true},
		// Two of these: each once, one of them once, and each twice; the product of both leaves 1.
		{21, false}, {33, false}, {77, false}, {129, false}, {63, false}, {147, false}, {189, false}, {441, true}, {882, true}, {1089, true},
		// Great primes, alone and with few ones ahead, above the root and above 1414.
		{1997, true}, {1999, false}, {1993, true}, {1987, false}, {1429, true}, {1423, false}, {1433, true}, {1427, false}, {1409, true}, {1399, false}, {1994, true}, {1966, false}, {1982, false}, {1996, false}, {1989, true}, {1971, false},
		{1998, false}, {1995, false}, {2000, true},
		{0, false}, {-1, false}, {-2, false}, {-5, false}, {-9, false}, {2001, false}, {2005, false}, {2025, false}, {2017, false},
	} {
		if got := impl.SumOk(c.n); got != c.want {
			t.Error(c, got)
		}
	}
}

// evenThrees reports whether each prime that leaves 3 is in n an even number of times.
func evenThrees(n int) bool {
	for p := 3; p <= n; p += 4 {
		often := 0
		for left := n; wholePrime(p) && left%p == 0; left /= p {
			often++
		}
		if often%2 != 0 {
			return false
		}
	}
	return true
}

func TestSumsOfTwoSquaresAreToldByPrimes(t *testing.T) {
	circles := circlesTold()
	for n := 1; n <= 2000; n++ {
		got := impl.SumOk(n)
		if got != (impl.CountOf(n) != 0) || got != (len(circles[n]) > 0) || got != evenThrees(n) {
			t.Fatal(n, got)
		}
		if n <= 44 && !impl.SumOk(n*n) {
			t.Fatal(n)
		}
	}
}

func TestSumsOfTwoSquaresOfWrongNorms(t *testing.T) {
	for _, n := range append(wrongNorms, 0, 45*45, -49) {
		if impl.SumOk(n) {
			t.Error(n)
		}
	}
}

// Promise 49.

func TestTriangles(t *testing.T) {
	for _, c := range []struct {
		z     impl.Gauss
		sides [3]int
		ok    bool
	}{
		{impl.Gauss{}, [3]int{0, 0, 0}, true},
		{impl.Gauss{A: 1}, [3]int{1, 0, 1}, true},
		{impl.Gauss{B: 1}, [3]int{1, 0, 1}, true},
		{impl.Gauss{A: -1}, [3]int{1, 0, 1}, true},
		{impl.Gauss{B: -1}, [3]int{1, 0, 1}, true},
		{impl.Gauss{A: 2, B: 1}, [3]int{3, 4, 5}, true},
		{impl.Gauss{A: 3, B: 2}, [3]int{5, 12, 13}, true},
		{impl.Gauss{A: 4, B: 1}, [3]int{15, 8, 17}, true},
		{impl.Gauss{A: 31, B: 10}, [3]int{861, 620, 1061}, true},
		// Parts of the other sign, and both parts exchanged.
		{impl.Gauss{A: -2, B: 1}, [3]int{3, 4, 5}, true},
		{impl.Gauss{A: 2, B: -1}, [3]int{3, 4, 5}, true},
		{impl.Gauss{A: -2, B: -1}, [3]int{3, 4, 5}, true},
		{impl.Gauss{A: 1, B: 2}, [3]int{3, 4, 5}, true},
		{impl.Gauss{A: -1, B: 2}, [3]int{3, 4, 5}, true},
		{impl.Gauss{A: 1, B: -2}, [3]int{3, 4, 5}, true},
		// Whole numbers, such times i, and equal parts.
		{impl.Gauss{A: 3}, [3]int{9, 0, 9}, true},
		{impl.Gauss{A: -7}, [3]int{49, 0, 49}, true},
		{impl.Gauss{B: -5}, [3]int{25, 0, 25}, true},
		{impl.Gauss{A: 3, B: 3}, [3]int{0, 18, 18}, true},
		{impl.Gauss{A: -4, B: 4}, [3]int{0, 32, 32}, true},
		// Squares with one part or both above MaxPart.
		{impl.Gauss{A: 32, B: 1}, [3]int{1023, 64, 1025}, true},
		{impl.Gauss{A: 23, B: 22}, [3]int{45, 1012, 1013}, true},
		{impl.Gauss{A: 501, B: 500}, [3]int{1001, 501000, 501001}, true},
		{impl.Gauss{A: -500, B: -500}, [3]int{0, 500000, 500000}, true},
		{impl.Gauss{A: 500, B: -1000}, [3]int{750000, 1000000, 1250000}, true},
		// Parts at the bounds, and past them.
		{impl.Gauss{A: 1000}, [3]int{1000000, 0, 1000000}, true},
		{impl.Gauss{B: -1000}, [3]int{1000000, 0, 1000000}, true},
		{impl.Gauss{A: -1000, B: 1}, [3]int{999999, 2000, 1000001}, true},
		{impl.Gauss{A: 1000, B: 999}, [3]int{1999, 1998000, 1998001}, true},
		{impl.Gauss{A: 999, B: -1000}, [3]int{1999, 1998000, 1998001}, true},
		{impl.Gauss{A: 1000, B: 1000}, [3]int{0, 2000000, 2000000}, true},
		{impl.Gauss{A: -1000, B: 1000}, [3]int{0, 2000000, 2000000}, true},
		{impl.Gauss{A: -1000, B: -1000}, [3]int{0, 2000000, 2000000}, true},
		{impl.Gauss{A: 1001}, [3]int{-1, -1, -1}, false},
		{impl.Gauss{A: 2, B: -1001}, [3]int{-1, -1, -1}, false},
		{impl.Gauss{A: 1 << 32, B: 1}, [3]int{-1, -1, -1}, false},
	} {
		a, b, side, ok := impl.TriangleOf(c.z)
		if got := [3]int{a, b, side}; got != c.sides || ok != c.ok {
			t.Error(c, got, ok)
		}
	}
}

func TestSquaresTellRightTriangles(t *testing.T) {
	for _, z := range append(sampleNumbers(), smallNumbers(40)...) {
		a, b, c, ok := impl.TriangleOf(z)
		square := timesBoth(z, z)
		if !ok || a != max(square.A, -square.A) || b != max(square.B, -square.B) || c != normOf(z) {
			t.Fatal(z, a, b, c, ok)
		}
		if a*a+b*b != c*c || a < 0 || b < 0 {
			t.Fatal(z, a, b, c)
		}
		for times := range 4 {
			d, e, f, ok := impl.TriangleOf(impl.TurnedBy(z, times))
			if !ok || d != a || e != b || f != c {
				t.Fatal(z, times, d, e, f, ok)
			}
		}
	}
}

func TestTrianglesOfWrongNumbers(t *testing.T) {
	for _, z := range wrongNumbers() {
		if a, b, c, ok := impl.TriangleOf(z); ok || a != -1 || b != -1 || c != -1 {
			t.Error(z, a, b, c, ok)
		}
	}
}

// Promise 50.

func TestCircles(t *testing.T) {
	for _, c := range []struct{ most, want int }{
		{0, 1}, {1, 5}, {2, 9}, {3, 9}, {4, 13}, {5, 21}, {8, 25}, {9, 29}, {10, 37}, {25, 81}, {50, 161}, {99, 305}, {100, 317}, {101, 325}, {399, 1245}, {400, 1257}, {500, 1581}, {999, 3133}, {1000, 3149}, {1936, 6077},
		{1996, 6269}, {1997, 6277}, {1998, 6277}, {1999, 6277}, {2000, 6293},
		{-1, -1}, {-2000, -1}, {2001, -1}, {2005, -1},
	} {
		if got := impl.CircleOf(c.most); got != c.want {
			t.Error(c, got)
		}
	}
}

func TestCirclesAreSummedFromNorms(t *testing.T) {
	circles := circlesTold()
	told := 0
	for most := 0; most <= 2000; most++ {
		told += len(circles[most])
		got := impl.CircleOf(most)
		if got != told || got%4 != 1 {
			t.Fatal(most, got, told)
		}
		if most > 0 && got != impl.CircleOf(most-1)+impl.CountOf(most) {
			t.Fatal(most, got)
		}
	}
}

func TestCirclesOfWrongNorms(t *testing.T) {
	for _, most := range wrongNorms {
		if got := impl.CircleOf(most); got != -1 {
			t.Error(most, got)
		}
	}
}
