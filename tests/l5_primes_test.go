package tests

import (
	"cmp"
	"math"
	"slices"
	"testing"

	"loop.example/gaussnumbers/impl"
)

// wholePrime and primeTold are told apart from the program, so that tests do not rest on it.
func wholePrime(n int) bool {
	for d := 2; d*d <= n; d++ {
		if n%d == 0 {
			return false
		}
	}
	return n >= 2
}

func primeTold(z impl.Gauss) bool {
	if z.A != 0 && z.B != 0 {
		return wholePrime(normOf(z))
	}
	alone := max(z.A, -z.A, z.B, -z.B)
	return wholePrime(alone) && alone%4 == 3
}

// quarterUpTo are the numbers of the first quarter up to a norm, by norms and of equal ones by first parts.
func quarterUpTo(most int) []impl.Gauss {
	var list []impl.Gauss
	for a := 1; a*a <= most; a++ {
		for b := 0; a*a+b*b <= most; b++ {
			list = append(list, impl.Gauss{A: a, B: b})
		}
	}
	slices.SortFunc(list, func(z, w impl.Gauss) int {
		return cmp.Or(cmp.Compare(normOf(z), normOf(w)), cmp.Compare(z.A, w.A))
	})
	return list
}

// dividing are those of a list, in its order, that divide z.
func dividing(list []impl.Gauss, z impl.Gauss) []impl.Gauss {
	var found []impl.Gauss
	for _, w := range list {
		if divides(w, z) {
			found = append(found, w)
		}
	}
	return found
}

// wrongWholes are whole numbers out of 2..MaxPart: just past it, with the other sign, and where an int is cut off.
var wrongWholes = []int{-1, 0, 1, -2, -3, -7, -13, 1001, 1009, 1013, 1019, 2000, 1<<32 + 2, 1<<32 + 3, 1<<32 + 13, -1<<32 + 3, 1<<31 - 1, 1 << 62, math.MinInt, math.MinInt + 1, math.MaxInt}

// Promise 23.

func TestPrimes(t *testing.T) {
	for _, c := range []struct {
		z    impl.Gauss
		want bool
	}{
		{impl.Gauss{}, false},
		{impl.Gauss{A: 1}, false},
		{impl.Gauss{B: 1}, false},
		{impl.Gauss{A: -1}, false},
		{impl.Gauss{B: -1}, false},
		{impl.Gauss{A: 1, B: 1}, true},
		{impl.Gauss{A: 1, B: -1}, true},
		{impl.Gauss{A: -1, B: 1}, true},
		{impl.Gauss{A: -1, B: -1}, true},
		// One part alone, that leaves 2, 3, 1 or 0 if it is divided by 4.
		{impl.Gauss{A: 2}, false},
		{impl.Gauss{A: -2}, false},
		{impl.Gauss{B: 2}, false},
		{impl.Gauss{B: -2}, false},
		{impl.Gauss{A: 3}, true},
		{impl.Gauss{A: -3}, true},
		{impl.Gauss{B: 3}, true},
		{impl.Gauss{B: -3}, true},
		{impl.Gauss{A: 5}, false},
		{impl.Gauss{A: -5}, false},
		{impl.Gauss{B: 5}, false},
		{impl.Gauss{B: -5}, false},
		{impl.Gauss{A: -13}, false},
		{impl.Gauss{B: -17}, false},
		{impl.Gauss{A: -7}, true},
		{impl.Gauss{B: 11}, true},
		{impl.Gauss{A: 4}, false},
		// Such that leave 3, but are no primes.
		{impl.Gauss{A: 15}, false},
		{impl.Gauss{B: -27}, false},
		{impl.Gauss{A: 9}, false},
		{impl.Gauss{A: 961}, false},
		// A prime norm, or none.
		{impl.Gauss{A: 2, B: 1}, true},
		{impl.Gauss{A: 2, B: -1}, true},
		{impl.Gauss{A: -1, B: 2}, true},
		{impl.Gauss{A: -3, B: -2}, true},
		{impl.Gauss{A: 3, B: 1}, false},
		{impl.Gauss{A: 3, B: 4}, false},
		{impl.Gauss{A: 4, B: -1}, true},
		{impl.Gauss{A: 3, B: 3}, false},
		{impl.Gauss{A: 7, B: 4}, false},
		{impl.Gauss{A: -8, B: 1}, false},
		// The greatest ones, and the norm whose least divisor is greatest: 1373 times 1409.
		{impl.Gauss{A: 991}, true},
		{impl.Gauss{B: -991}, true},
		{impl.Gauss{A: 997}, false},
		{impl.Gauss{A: -999}, false},
		{impl.Gauss{A: 999, B: -994}, true},
		{impl.Gauss{A: 986, B: 981}, false},
		{impl.Gauss{A: -981, B: 986}, false},
		{impl.Gauss{A: 978, B: 965}, false},
		// Parts at the bounds, and past them.
		{impl.Gauss{A: 1000}, false},
		{impl.Gauss{B: -1000}, false},
		{impl.Gauss{A: -1000, B: 1000}, false},
		{impl.Gauss{A: 1000, B: 1}, false},
		{impl.Gauss{A: 1000, B: 3}, false},
		{impl.Gauss{A: 1000, B: 9}, true},
		{impl.Gauss{A: -11, B: -1000}, true},
		{impl.Gauss{A: -971, B: 1000}, true},
		{impl.Gauss{A: -1000, B: 999}, false},
		{impl.Gauss{A: 1003}, false},
		{impl.Gauss{A: 1019}, false},
		{impl.Gauss{B: -1019}, false},
		{impl.Gauss{A: 1, B: 1004}, false},
	} {
		if got := impl.PrimeOk(c.z); got != c.want {
			t.Error(c, got)
		}
	}
}

func TestPrimesAreToldByNorms(t *testing.T) {
	var great []int
	for n := 950; n <= 1000; n++ {
		great = append(great, n)
	}
	for _, list := range [][]impl.Gauss{sampleNumbers(), onLines(), smallNumbers(60), pairsOf(great, great), pairsOf(edgeParts, great)} {
		for _, z := range list {
			if got := impl.PrimeOk(z); got != primeTold(z) {
				t.Fatal(z, got)
			}
		}
	}
}

func TestPrimesHaveTwoDivisors(t *testing.T) {
	list := quarterUpTo(2000)
	for _, z := range smallNumbers(45) {
		if norm := normOf(z); norm == 0 || norm > 2000 {
			continue
		}
		got := impl.PrimeOk(z)
		if got != (len(dividing(list, z)) == 2) || got != (len(impl.DivisorsOf(z)) == 2) {
			t.Fatal(z, got)
		}
	}
}

func TestPrimesThatDivideProducts(t *testing.T) {
	found := 0
	for _, p := range smallNumbers(7) {
		if !impl.PrimeOk(p) {
			continue
		}
		for _, list := range [][]impl.Gauss{smallNumbers(6), fewNumbers()} {
			for _, z := range list {
				for _, w := range list {
					product, ok := impl.TimesOf(z, w)
					if !ok || !impl.DividesOk(p, product) {
						continue
					}
					found++
					if !impl.DividesOk(p, z) && !impl.DividesOk(p, w) {
						t.Fatal(p, z, w)
					}
				}
			}
		}
	}
	if found == 0 {
		t.Error("no prime divides a product")
	}
}

func TestPrimesOfWrongNumbers(t *testing.T) {
	for _, z := range wrongNumbers() {
		if impl.PrimeOk(z) {
			t.Error(z)
		}
	}
	// A prime norm, or one prime part that leaves 3; and parts by which sums and squares wrap around to small numbers.
	for _, z := range []impl.Gauss{{A: 1001, B: 10}, {A: 1, B: -1010}, {A: 1031}, {B: 1039}, {A: 1<<32 + 1, B: 1}, {A: 1 << 32, B: 3}, {A: 1<<32 + 3}, {B: -1<<32 - 3}, {A: math.MaxInt, B: 4}, {A: math.MinInt, B: 3}} {
		if impl.PrimeOk(z) {
			t.Error(z)
		}
	}
}

// Promise 24.

func TestKinds(t *testing.T) {
	for _, c := range []struct{ p, want int }{
		{2, 0}, {3, 2}, {5, 1}, {7, 2}, {11, 2}, {13, 1}, {17, 1}, {19, 2}, {23, 2}, {29, 1},
		{983, 2}, {991, 2}, {977, 1}, {997, 1},
		{4, -1}, {6, -1}, {8, -1}, {9, -1}, {15, -1}, {21, -1}, {25, -1}, {27, -1}, {961, -1}, {989, -1}, {998, -1}, {999, -1}, {1000, -1},
	} {
		if got := impl.KindOf(c.p); got != c.want {
			t.Error(c, got)
		}
	}
	for _, p := range wrongWholes {
		if got := impl.KindOf(p); got != -1 {
			t.Error(p, got)
		}
	}
}

func TestKindsOfAllWholeNumbers(t *testing.T) {
	for p := -1100; p <= 1100; p++ {
		got := impl.KindOf(p)
		if p < 2 || p > 1000 || !wholePrime(p) {
			if got != -1 {
				t.Error(p, got)
			}
			continue
		}
		if (got == 0) != (p == 2) || (got == 1) != (p%4 == 1) || (got == 2) != impl.PrimeOk(impl.Gauss{A: p}) || (got == 2) != (p%4 == 3) {
			t.Error(p, got)
		}
	}
}

// Promise 25.

func TestSplitPrimes(t *testing.T) {
	for _, c := range []struct {
		p    int
		want impl.Gauss
		ok   bool
	}{
		{2, impl.Gauss{A: 1, B: 1}, true},
		{3, impl.Gauss{}, false},
		{5, impl.Gauss{A: 2, B: 1}, true},
		{7, impl.Gauss{}, false},
		{13, impl.Gauss{A: 3, B: 2}, true},
		{17, impl.Gauss{A: 4, B: 1}, true},
		{29, impl.Gauss{A: 5, B: 2}, true},
		{401, impl.Gauss{A: 20, B: 1}, true},
		{991, impl.Gauss{}, false},
		{997, impl.Gauss{A: 31, B: 6}, true},
		// No primes, though some of them are norms.
		{4, impl.Gauss{}, false},
		{8, impl.Gauss{}, false},
		{9, impl.Gauss{}, false},
		{10, impl.Gauss{}, false},
		{25, impl.Gauss{}, false},
		{65, impl.Gauss{}, false},
		{1000, impl.Gauss{}, false},
		// 1 is a norm, and 1009 is the first prime past the bound: 28 and 15.
		{1, impl.Gauss{}, false},
		{0, impl.Gauss{}, false},
		{1009, impl.Gauss{}, false},
	} {
		if got, ok := impl.SplitOf(c.p); got != c.want || ok != c.ok {
			t.Error(c, got, ok)
		}
	}
	for _, p := range wrongWholes {
		if got, ok := impl.SplitOf(p); got != (impl.Gauss{}) || ok {
			t.Error(p, got, ok)
		}
	}
}

func TestPrimesThatLeaveOneAreTwoSquares(t *testing.T) {
	for p := -20; p <= 1100; p++ {
		got, ok := impl.SplitOf(p)
		kind := impl.KindOf(p)
		if ok != (kind == 0 || kind == 1) || ok != (p <= 1000 && wholePrime(p) && p%4 < 3) {
			t.Error(p, got, ok)
		}
		if !ok {
			if got != (impl.Gauss{}) {
				t.Error(p, got)
			}
			continue
		}
		if normOf(got) != p || impl.NormOf(got) != p || !impl.PrimeOk(got) || !inFirstQuarter(got) || got.A < got.B {
			t.Error(p, got)
		}
		if product, told := impl.TimesOf(got, impl.OverOf(got)); product != (impl.Gauss{A: p}) || !told {
			t.Error(p, got, product)
		}
	}
}

// Promise 26.

func TestDivisors(t *testing.T) {
	for _, c := range []struct {
		z    impl.Gauss
		want []impl.Gauss
	}{
		{impl.Gauss{A: 1}, []impl.Gauss{{A: 1}}},
		{impl.Gauss{B: 1}, []impl.Gauss{{A: 1}}},
		{impl.Gauss{A: -1}, []impl.Gauss{{A: 1}}},
		{impl.Gauss{B: -1}, []impl.Gauss{{A: 1}}},
		{impl.Gauss{A: 1, B: -1}, []impl.Gauss{{A: 1}, {A: 1, B: 1}}},
		{impl.Gauss{A: 2}, []impl.Gauss{{A: 1}, {A: 1, B: 1}, {A: 2}}},
		{impl.Gauss{B: -3}, []impl.Gauss{{A: 1}, {A: 3}}},
		{impl.Gauss{A: -1, B: 2}, []impl.Gauss{{A: 1}, {A: 2, B: 1}}},
		{impl.Gauss{A: 3, B: 1}, []impl.Gauss{{A: 1}, {A: 1, B: 1}, {A: 1, B: 2}, {A: 3, B: 1}}},
		// Equal norms, in the order of first parts.
		{impl.Gauss{A: 5}, []impl.Gauss{{A: 1}, {A: 1, B: 2}, {A: 2, B: 1}, {A: 5}}},
		{impl.Gauss{B: -10}, []impl.Gauss{{A: 1}, {A: 1, B: 1}, {A: 2}, {A: 1, B: 2}, {A: 2, B: 1}, {A: 1, B: 3}, {A: 3, B: 1}, {A: 2, B: 4}, {A: 4, B: 2}, {A: 5}, {A: 5, B: 5}, {A: 10}}},
		{impl.Gauss{A: -3, B: 4}, []impl.Gauss{{A: 1}, {A: 1, B: 2}, {A: 4, B: 3}}},
		{impl.Gauss{A: 34, B: -29}, []impl.Gauss{{A: 1}, {A: 29, B: 34}}},
		{impl.Gauss{}, nil},
		{impl.Gauss{A: 1001}, nil},
		{impl.Gauss{B: -1001}, nil},
	} {
		if got := impl.DivisorsOf(c.z); !slices.Equal(got, c.want) {
			t.Error(c, got)
		}
	}
}

func TestDivisorsAtTheGreatestNorm(t *testing.T) {
	list := quarterUpTo(2100)
	for _, z := range []impl.Gauss{{A: 40, B: 20}, {A: -20, B: 40}, {A: 44, B: -8}, {A: -44, B: -8}, {A: 8, B: 44}} {
		want := dividing(list, z)
		if got := impl.DivisorsOf(z); normOf(z) != 2000 || len(got) < 8 || !slices.Equal(got, want) {
			t.Error(z, got)
		}
	}
	// The next norm is 2005.
	for _, z := range []impl.Gauss{{A: 39, B: 22}, {A: -18, B: 41}, {A: 45}, {A: 2, B: 45}, {A: 1000, B: -1000}, {A: 1000}, {A: 32, B: -32}, {A: 22, B: 39}} {
		if got := impl.DivisorsOf(z); got != nil {
			t.Error(z, got)
		}
	}
}

func TestDivisorsGoInPairs(t *testing.T) {
	list := quarterUpTo(2000)
	for _, z := range smallNumbers(46) {
		norm := normOf(z)
		got := impl.DivisorsOf(z)
		if norm == 0 || norm > 2000 {
			if got != nil {
				t.Fatal(z, got)
			}
			continue
		}
		if !slices.Equal(got, dividing(list, z)) || got[0] != (impl.Gauss{A: 1}) {
			t.Fatal(z, got)
		}
		for _, w := range got {
			if first, times, _ := impl.FirstOf(w); first != w || times != 0 || !impl.DividesOk(w, z) {
				t.Fatal(z, w)
			}
			left, _ := impl.ExactOf(z, w)
			if first, _, _ := impl.FirstOf(left); !slices.Contains(got, first) {
				t.Fatal(z, w, left)
			}
		}
	}
}

func TestDivisorsAreNewEachTime(t *testing.T) {
	z := impl.Gauss{A: 10}
	first := impl.DivisorsOf(z)
	want := slices.Clone(first)
	for n := range first {
		first[n] = impl.Gauss{A: 77}
	}
	if got := impl.DivisorsOf(z); !slices.Equal(got, want) {
		t.Error(got)
	}
}

func TestDivisorsOfWrongNumbers(t *testing.T) {
	for _, z := range wrongNumbers() {
		if got := impl.DivisorsOf(z); got != nil {
			t.Error(z, got)
		}
	}
	// Squares that wrap around to a norm of at most 2000.
	for _, z := range []impl.Gauss{{A: 1 << 32}, {A: 1 << 32, B: 1}, {A: 5, B: -1 << 32}, {A: math.MaxInt, B: 2}, {A: math.MinInt, B: 3}} {
		if got := impl.DivisorsOf(z); got != nil {
			t.Error(z, got)
		}
	}
}

// Promise 27.

func TestPrimesInOrder(t *testing.T) {
	for _, c := range []struct {
		most int
		want []impl.Gauss
	}{
		{1, nil},
		{2, []impl.Gauss{{A: 1, B: 1}}},
		{4, []impl.Gauss{{A: 1, B: 1}}},
		{5, []impl.Gauss{{A: 1, B: 1}, {A: 1, B: 2}, {A: 2, B: 1}}},
		{8, []impl.Gauss{{A: 1, B: 1}, {A: 1, B: 2}, {A: 2, B: 1}}},
		{9, []impl.Gauss{{A: 1, B: 1}, {A: 1, B: 2}, {A: 2, B: 1}, {A: 3}}},
		{12, []impl.Gauss{{A: 1, B: 1}, {A: 1, B: 2}, {A: 2, B: 1}, {A: 3}}},
		{30, []impl.Gauss{{A: 1, B: 1}, {A: 1, B: 2}, {A: 2, B: 1}, {A: 3}, {A: 2, B: 3}, {A: 3, B: 2}, {A: 1, B: 4}, {A: 4, B: 1}, {A: 2, B: 5}, {A: 5, B: 2}}},
	} {
		if got := impl.PrimesUpTo(c.most); !slices.Equal(got, c.want) {
			t.Error(c, got)
		}
	}
	all := impl.PrimesUpTo(400)
	// Two of each norm that is a prime and leaves 1, and 1+i, 3, 7, 11 and 19 besides.
	if len(all) != 2*37+5 || all[len(all)-2] != (impl.Gauss{A: 6, B: 19}) || all[len(all)-1] != (impl.Gauss{A: 19, B: 6}) {
		t.Error(len(all), all)
	}
}

func TestPrimesUpToEachNorm(t *testing.T) {
	for most := 1; most <= 400; most++ {
		var want []impl.Gauss
		for _, z := range quarterUpTo(most) {
			if primeTold(z) {
				want = append(want, z)
			}
		}
		got := impl.PrimesUpTo(most)
		if !slices.Equal(got, want) {
			t.Fatal(most, got)
		}
		for _, z := range got {
			first, _, _ := impl.FirstOf(z)
			alone := z == impl.Gauss{A: 1, B: 1} || z.B == 0
			if first != z || !impl.PrimeOk(z) || !alone && !slices.Contains(got, impl.Gauss{A: z.B, B: z.A}) {
				t.Fatal(most, z)
			}
		}
	}
}

func TestNoPrimeDividesAnotherOne(t *testing.T) {
	all := impl.PrimesUpTo(400)
	for _, z := range all {
		for _, w := range all {
			if impl.DividesOk(z, w) != (z == w) {
				t.Error(z, w)
			}
		}
	}
}

func TestPrimesAreNewEachTime(t *testing.T) {
	first := impl.PrimesUpTo(9)
	first[0] = impl.Gauss{A: 77}
	_ = append(first, impl.Gauss{A: 78})
	if got := impl.PrimesUpTo(13); got[0] != (impl.Gauss{A: 1, B: 1}) || got[4] != (impl.Gauss{A: 2, B: 3}) {
		t.Error(got)
	}
}

func TestPrimesUpToWrongNorms(t *testing.T) {
	for _, most := range []int{0, -1, -2, -400, 401, 402, 409, 2000, 1 << 32, 1<<32 + 9, -1<<32 + 9, 1 << 62, math.MinInt, math.MinInt + 1, math.MaxInt} {
		if got := impl.PrimesUpTo(most); got != nil {
			t.Error(most, got)
		}
	}
}
