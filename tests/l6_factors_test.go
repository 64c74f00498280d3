package tests

import (
	"cmp"
	"math"
	"slices"
	"testing"

	"loop.example/gaussnumbers/impl"
)

// inOrder compares by norms, and of equal ones by first parts.
func inOrder(z, w impl.Gauss) int {
	return cmp.Or(cmp.Compare(normOf(z), normOf(w)), cmp.Compare(z.A, w.A))
}

// quarterPrimes are the primes of the first quarter up to a norm, in order.
func quarterPrimes(most int) []impl.Gauss {
	return slices.DeleteFunc(quarterUpTo(most), func(z impl.Gauss) bool {
		return !primeTold(z)
	})
}

// repeated is a list with a number so many times.
func repeated(z impl.Gauss, times int) []impl.Gauss {
	return slices.Repeat([]impl.Gauss{z}, times)
}

// factorsFit: these are a unit and primes of the first quarter, in order, whose product is z. There is just one such answer.
func factorsFit(z impl.Gauss, times int, list []impl.Gauss) bool {
	if times < 0 || times > 3 || !slices.IsSortedFunc(list, inOrder) {
		return false
	}
	product := units[times]
	for _, p := range list {
		if !primeTold(p) || !inFirstQuarter(p) {
			return false
		}
		product = timesBoth(product, p)
	}
	return product == z
}

// factorSamples are small and great numbers, those at the bounds and those with one part alone.
func factorSamples() []impl.Gauss {
	var great []int
	for n := 980; n <= 1000; n++ {
		great = append(great, n, -n)
	}
	return slices.Concat(sampleNumbers(), onLines(), smallNumbers(40), pairsOf(great, great), pairsOf(edgeParts, great))
}

// noPrimes are valid numbers that are no primes: 0, units, and products.
var noPrimes = []impl.Gauss{{}, {A: 1}, {B: 1}, {A: -1}, {B: -1}, {A: 2}, {B: -2}, {A: 4}, {A: 5}, {B: 5}, {A: 9}, {A: 3, B: 1}, {A: 3, B: 3}, {A: 3, B: 4}, {A: -6}, {A: 15}, {B: 997}, {A: 1000}, {A: 1000, B: 1000}, {A: 986, B: 981}}

// farPrimes would be primes, but have a part out of bounds.
var farPrimes = []impl.Gauss{{A: 1001, B: 10}, {A: 1, B: -1010}, {A: 1019}, {B: -1019}, {A: 1<<32 + 1, B: 1}, {A: 1<<32 + 3}, {A: 1 << 32, B: 3}, {A: math.MinInt, B: 3}}

// Promise 28.

func TestFactors(t *testing.T) {
	even := impl.Gauss{A: 1, B: 1}
	for _, c := range []struct {
		z     impl.Gauss
		times int
		want  []impl.Gauss
	}{
		{impl.Gauss{A: 1}, 0, nil},
		{impl.Gauss{B: 1}, 1, nil},
		{impl.Gauss{A: -1}, 2, nil},
		{impl.Gauss{B: -1}, 3, nil},
		{even, 0, repeated(even, 1)},
		{impl.Gauss{A: -1, B: 1}, 1, repeated(even, 1)},
		{impl.Gauss{A: -1, B: -1}, 2, repeated(even, 1)},
		{impl.Gauss{A: 1, B: -1}, 3, repeated(even, 1)},
		{impl.Gauss{A: 1, B: 2}, 0, []impl.Gauss{{A: 1, B: 2}}},
		{impl.Gauss{A: 1, B: -2}, 3, []impl.Gauss{{A: 2, B: 1}}},
		{impl.Gauss{A: -2, B: 3}, 1, []impl.Gauss{{A: 3, B: 2}}},
		{impl.Gauss{B: -3}, 3, []impl.Gauss{{A: 3}}},
		{impl.Gauss{A: -7}, 2, []impl.Gauss{{A: 7}}},
		// Squares and higher powers of primes, and a unit times these.
		{impl.Gauss{A: 2}, 3, repeated(even, 2)},
		{impl.Gauss{B: 2}, 0, repeated(even, 2)},
		{impl.Gauss{A: -4}, 0, repeated(even, 4)},
		{impl.Gauss{A: 3, B: 4}, 0, repeated(impl.Gauss{A: 2, B: 1}, 2)},
		{impl.Gauss{A: -3, B: 4}, 0, repeated(impl.Gauss{A: 1, B: 2}, 2)},
		{impl.Gauss{A: 4, B: 3}, 3, repeated(impl.Gauss{A: 1, B: 2}, 2)},
		{impl.Gauss{A: 9}, 0, repeated(impl.Gauss{A: 3}, 2)},
		{impl.Gauss{B: -27}, 3, repeated(impl.Gauss{A: 3}, 3)},
		{impl.Gauss{A: 729}, 0, repeated(impl.Gauss{A: 3}, 6)},
		{impl.Gauss{A: -961}, 2, repeated(impl.Gauss{A: 31}, 2)},
		{impl.Gauss{A: -512, B: 512}, 0, repeated(even, 19)},
		{impl.Gauss{A: 512, B: 512}, 3, repeated(even, 19)},
		// Primes of equal norms, by first parts; and whole numbers that leave 1, 2, or 3.
		{impl.Gauss{A: 5}, 3, []impl.Gauss{{A: 1, B: 2}, {A: 2, B: 1}}},
		{impl.Gauss{A: 25}, 2, []impl.Gauss{{A: 1, B: 2}, {A: 1, B: 2}, {A: 2, B: 1}, {A: 2, B: 1}}},
		{impl.Gauss{A: 65}, 2, []impl.Gauss{{A: 1, B: 2}, {A: 2, B: 1}, {A: 2, B: 3}, {A: 3, B: 2}}},
		{impl.Gauss{A: 10}, 2, []impl.Gauss{even, even, {A: 1, B: 2}, {A: 2, B: 1}}},
		{impl.Gauss{A: 15}, 3, []impl.Gauss{{A: 1, B: 2}, {A: 2, B: 1}, {A: 3}}},
		{impl.Gauss{A: 39}, 3, []impl.Gauss{{A: 3}, {A: 2, B: 3}, {A: 3, B: 2}}},
		{impl.Gauss{A: 203}, 3, []impl.Gauss{{A: 2, B: 5}, {A: 5, B: 2}, {A: 7}}},
		{impl.Gauss{A: 371}, 3, []impl.Gauss{{A: 7}, {A: 2, B: 7}, {A: 7, B: 2}}},
		{impl.Gauss{A: -999}, 1, []impl.Gauss{{A: 3}, {A: 3}, {A: 3}, {A: 1, B: 6}, {A: 6, B: 1}}},
		// Both parts have a common divisor, and its primes come between others or are there again.
		{impl.Gauss{A: 3, B: -6}, 3, []impl.Gauss{{A: 2, B: 1}, {A: 3}}},
		{impl.Gauss{A: 5, B: 10}, 3, []impl.Gauss{{A: 1, B: 2}, {A: 1, B: 2}, {A: 2, B: 1}}},
		{impl.Gauss{A: 10, B: 5}, 3, []impl.Gauss{{A: 1, B: 2}, {A: 2, B: 1}, {A: 2, B: 1}}},
		{impl.Gauss{A: -24, B: 3}, 1, []impl.Gauss{{A: 2, B: 1}, {A: 3}, {A: 2, B: 3}}},
		{impl.Gauss{A: 13, B: 26}, 3, []impl.Gauss{{A: 1, B: 2}, {A: 2, B: 3}, {A: 3, B: 2}}},
		// A prime of a great norm.
		{impl.Gauss{A: 991}, 0, []impl.Gauss{{A: 991}}},
		{impl.Gauss{A: -991, B: 991}, 1, []impl.Gauss{even, {A: 991}}},
		{impl.Gauss{A: 997}, 3, []impl.Gauss{{A: 6, B: 31}, {A: 31, B: 6}}},
		{impl.Gauss{A: 999, B: -994}, 3, []impl.Gauss{{A: 994, B: 999}}},
		{impl.Gauss{A: 986, B: 981}, 0, []impl.Gauss{{A: 37, B: 2}, {A: 28, B: 25}}},
		{impl.Gauss{A: 1000, B: 9}, 0, []impl.Gauss{{A: 1000, B: 9}}},
		// Parts at the bounds.
		{impl.Gauss{A: 1000}, 2, slices.Concat(repeated(even, 6), repeated(impl.Gauss{A: 1, B: 2}, 3), repeated(impl.Gauss{A: 2, B: 1}, 3))},
		{impl.Gauss{B: -1000}, 1, slices.Concat(repeated(even, 6), repeated(impl.Gauss{A: 1, B: 2}, 3), repeated(impl.Gauss{A: 2, B: 1}, 3))},
		{impl.Gauss{A: -1000, B: 1000}, 3, slices.Concat(repeated(even, 7), repeated(impl.Gauss{A: 1, B: 2}, 3), repeated(impl.Gauss{A: 2, B: 1}, 3))},
		{impl.Gauss{A: 1000, B: -999}, 2, []impl.Gauss{{A: 9, B: 14}, {A: 18, B: 83}}},
	} {
		if times, got, ok := impl.FactorsOf(c.z); times != c.times || !slices.Equal(got, c.want) || !ok {
			t.Error(c, times, got, ok)
		}
	}
}

func TestEachNumberIsAUnitTimesPrimes(t *testing.T) {
	for _, z := range factorSamples() {
		times, list, ok := impl.FactorsOf(z)
		if z == (impl.Gauss{}) {
			if times != -1 || len(list) != 0 || ok {
				t.Fatal(times, list, ok)
			}
			continue
		}
		if !ok || !factorsFit(z, times, list) || len(list) > impl.MaxFactors {
			t.Fatal(z, times, list, ok)
		}
		norm := 1
		for _, p := range list {
			norm *= impl.NormOf(p)
			if first, _, _ := impl.FirstOf(p); first != p || !impl.PrimeOk(p) {
				t.Fatal(z, p)
			}
		}
		if norm != impl.NormOf(z) {
			t.Fatal(z, list)
		}
		// Always told: a product on the way has at most half of the norm, and so no part above the bound.
		if product, told := impl.ProductOf(times, list); product != z || !told {
			t.Fatal(z, times, list, product, told)
		}
	}
}

func TestFactorsOfThreePrimes(t *testing.T) {
	primes := quarterPrimes(60)
	for n, p := range primes {
		for m, q := range primes[n:] {
			for _, r := range primes[n+m:] {
				want := []impl.Gauss{p, q, r}
				product := timesBoth(p, timesBoth(q, r))
				for times := range units {
					if got, list, ok := impl.FactorsOf(timesUnit(product, times)); got != times || !slices.Equal(list, want) || !ok {
						t.Fatal(want, times, got, list, ok)
					}
				}
			}
		}
	}
}

func TestFactorsOfProductsAreThoseOfBoth(t *testing.T) {
	none := 0
	for _, list := range [][]impl.Gauss{smallNumbers(9), fewNumbers()} {
		for _, z := range list {
			timesZ, ofZ, okZ := impl.FactorsOf(z)
			for _, w := range list {
				timesW, ofW, okW := impl.FactorsOf(w)
				product, told := impl.TimesOf(z, w)
				if !told {
					none++
					continue
				}
				times, got, ok := impl.FactorsOf(product)
				if ok != (okZ && okW) {
					t.Fatal(z, w, ok)
				}
				if !ok {
					continue
				}
				want := slices.Concat(ofZ, ofW)
				slices.SortFunc(want, inOrder)
				if times != (timesZ+timesW)%4 || !slices.Equal(got, want) {
					t.Fatal(z, w, times, got)
				}
			}
		}
	}
	if none == 0 {
		t.Error("no product is out of bounds")
	}
}

func TestFactorsAreNewEachTime(t *testing.T) {
	z := impl.Gauss{A: 30, B: 60}
	_, first, _ := impl.FactorsOf(z)
	want := slices.Clone(first)
	for n := range first {
		first[n] = impl.Gauss{A: 77}
	}
	_ = append(first, impl.Gauss{A: 78})
	if times, got, ok := impl.FactorsOf(z); !slices.Equal(got, want) || !factorsFit(z, times, got) || !ok {
		t.Error(times, got, ok)
	}
}

func TestFactorsOfWrongNumbers(t *testing.T) {
	wrong := slices.Concat(wrongNumbers(), farPrimes, []impl.Gauss{{}, {A: 1 << 32, B: 1 << 32}, {A: 1 << 32, B: 1}})
	for _, z := range wrong {
		if times, list, ok := impl.FactorsOf(z); times != -1 || len(list) != 0 || ok {
			t.Error(z, times, list, ok)
		}
	}
}

// Promise 29.

func TestProductsOfLists(t *testing.T) {
	even := impl.Gauss{A: 1, B: 1}
	for _, c := range []struct {
		times int
		list  []impl.Gauss
		want  impl.Gauss
		ok    bool
	}{
		// Without numbers, and with one.
		{0, nil, impl.Gauss{A: 1}, true},
		{1, []impl.Gauss{}, impl.Gauss{B: 1}, true},
		{2, nil, impl.Gauss{A: -1}, true},
		{3, nil, impl.Gauss{B: -1}, true},
		{-1, nil, impl.Gauss{}, false},
		{4, nil, impl.Gauss{}, false},
		{0, []impl.Gauss{{A: 2, B: 3}}, impl.Gauss{A: 2, B: 3}, true},
		{1, []impl.Gauss{{A: 2, B: 3}}, impl.Gauss{A: -3, B: 2}, true},
		{2, []impl.Gauss{{A: 2, B: 3}}, impl.Gauss{A: -2, B: -3}, true},
		{3, []impl.Gauss{{A: 2, B: 3}}, impl.Gauss{A: 3, B: -2}, true},
		{4, []impl.Gauss{{A: 2, B: 3}}, impl.Gauss{}, false},
		{-1, []impl.Gauss{{A: 2, B: 3}}, impl.Gauss{}, false},
		{3, []impl.Gauss{{A: 1000, B: -1000}}, impl.Gauss{A: -1000, B: -1000}, true},
		{0, []impl.Gauss{{}}, impl.Gauss{}, true},
		{0, []impl.Gauss{{A: 1001}}, impl.Gauss{}, false},
		{0, []impl.Gauss{{B: -1001}}, impl.Gauss{}, false},
		// Primes, in any order, and numbers that are none.
		{2, []impl.Gauss{even, even, {A: 1, B: 2}, {A: 2, B: 1}}, impl.Gauss{A: 10}, true},
		{2, []impl.Gauss{{A: 2, B: 1}, even, {A: 1, B: 2}, even}, impl.Gauss{A: 10}, true},
		{0, []impl.Gauss{{A: 4}, {A: -5}, {B: 6}}, impl.Gauss{B: -120}, true},
		{1, []impl.Gauss{{B: 1}, {B: -1}, {A: -1}}, impl.Gauss{B: -1}, true},
		{3, []impl.Gauss{{A: 3, B: 1}, {A: 3, B: -1}}, impl.Gauss{B: -10}, true},
		// At the bounds, and out of them in the end.
		{0, []impl.Gauss{{A: 10}, {A: 10}, {A: 10}}, impl.Gauss{A: 1000}, true},
		{1, []impl.Gauss{{A: 10}, {A: 10}, {A: 10}, even}, impl.Gauss{A: -1000, B: 1000}, true},
		{0, []impl.Gauss{{A: 7}, {A: 11}, {A: 13}}, impl.Gauss{}, false},
		{2, []impl.Gauss{{A: 7, B: 7}, {A: 11}, {A: 13}}, impl.Gauss{}, false},
		{0, []impl.Gauss{{A: 1000, B: 1000}, even}, impl.Gauss{}, false},
		// Out of bounds on the way, which the 0 behind does not undo; but ahead it does.
		{0, []impl.Gauss{{A: 1000}, {A: 2}, {}}, impl.Gauss{}, false},
		{1, []impl.Gauss{{A: 40, B: 1}, {A: 2, B: 40}, {}, {A: 3}}, impl.Gauss{}, false},
		{0, []impl.Gauss{{}, {A: 1000}, {A: 2}}, impl.Gauss{}, true},
		{3, []impl.Gauss{{A: 1000}, {}, {A: 2}, {B: 1000}}, impl.Gauss{}, true},
		// A wrong number behind 0, or behind a product that is none.
		{0, []impl.Gauss{{}, {A: 1001}}, impl.Gauss{}, false},
		{0, []impl.Gauss{{A: 1 << 32}, {A: 1 << 32}}, impl.Gauss{}, false},
		{0, []impl.Gauss{{A: 2}, {A: 1<<63 - 1}}, impl.Gauss{}, false},
	} {
		if got, ok := impl.ProductOf(c.times, c.list); got != c.want || ok != c.ok {
			t.Error(c, got, ok)
		}
	}
}

func TestProductsOfManyNumbers(t *testing.T) {
	even := impl.Gauss{A: 1, B: 1}
	for _, c := range []struct {
		list []impl.Gauss
		want impl.Gauss
		ok   bool
	}{
		{repeated(impl.Gauss{B: 1}, 23), impl.Gauss{B: -1}, true},
		{repeated(impl.Gauss{B: 1}, 24), impl.Gauss{A: 1}, true},
		{repeated(impl.Gauss{B: 1}, 25), impl.Gauss{}, false},
		{repeated(impl.Gauss{A: 1}, 25), impl.Gauss{}, false},
		{repeated(impl.Gauss{}, 24), impl.Gauss{}, true},
		{repeated(impl.Gauss{}, 25), impl.Gauss{}, false},
		{repeated(impl.Gauss{A: 1}, 1000), impl.Gauss{}, false},
		{repeated(even, 19), impl.Gauss{A: -512, B: 512}, true},
		{repeated(even, 20), impl.Gauss{}, false},
		{repeated(even, 24), impl.Gauss{}, false},
		{slices.Concat(repeated(even, 19), repeated(impl.Gauss{B: 1}, 5)), impl.Gauss{A: -512, B: -512}, true},
		{slices.Concat(repeated(even, 19), repeated(impl.Gauss{B: 1}, 6)), impl.Gauss{}, false},
	} {
		got, ok := impl.ProductOf(0, c.list)
		if got != c.want || ok != c.ok {
			t.Error(c, got, ok)
		}
		if turned, ok := impl.ProductOf(1, c.list); turned != timesUnit(c.want, 1) || ok != c.ok {
			t.Error(c, turned, ok)
		}
	}
}

func TestProductsHaveThePrimesOfWhichTheyAreMade(t *testing.T) {
	primes := quarterPrimes(40)
	for n, p := range primes {
		for m, q := range primes {
			// From the greatest to the least, so that the order is not the one of factors.
			list := []impl.Gauss{primes[(n+m)%len(primes)], q, p, impl.Gauss{A: 1, B: 1}}
			want := slices.Clone(list)
			slices.SortFunc(want, inOrder)
			for times := range units {
				product, ok := impl.ProductOf(times, list)
				if !ok {
					t.Fatal(list, times)
				}
				if got, factors, ok := impl.FactorsOf(product); got != times || !slices.Equal(factors, want) || !ok {
					t.Fatal(list, times, product, got, factors)
				}
			}
		}
	}
	for times, unit := range units {
		if got, ok := impl.ProductOf(times, nil); got != unit || !ok {
			t.Error(times, got, ok)
		}
	}
}

func TestProductsOfSamples(t *testing.T) {
	list := fewNumbers()
	for n, z := range list {
		for m, w := range list {
			third := list[(n*7+m*3)%len(list)]
			first := timesBoth(z, w)
			whole := timesBoth(first, third)
			told := inBounds(first.A, first.B) && inBounds(whole.A, whole.B)
			for times := range units {
				want := impl.Gauss{}
				if told {
					want = timesUnit(whole, times)
				}
				if got, ok := impl.ProductOf(times, []impl.Gauss{z, w, third}); got != want || ok != told {
					t.Fatal(z, w, third, times, got, ok)
				}
			}
		}
	}
}

func TestProductsLeaveTheListAsItIs(t *testing.T) {
	list := []impl.Gauss{{A: 2, B: 1}, {A: 1, B: 2}, {A: 3}, {A: 77}, {A: 78}}
	want := slices.Clone(list)
	if got, ok := impl.ProductOf(2, list[:3]); got != (impl.Gauss{B: -15}) || !ok || !slices.Equal(list, want) {
		t.Error(got, ok, list)
	}
}

func TestProductsOfWrongLists(t *testing.T) {
	refused := func(times int, list ...impl.Gauss) {
		t.Helper()
		if got, ok := impl.ProductOf(times, list); got != (impl.Gauss{}) || ok {
			t.Error(times, list, got, ok)
		}
	}
	for _, z := range wrongNumbers() {
		refused(0, z)
		refused(1, z, impl.Gauss{})
		refused(2, impl.Gauss{}, z)
		refused(3, impl.Gauss{B: 1}, z, impl.Gauss{A: 2, B: 1})
		refused(0, z, z)
	}
	for _, times := range wrongTimes {
		refused(times)
		refused(times, impl.Gauss{A: 2, B: 1})
		refused(times, impl.Gauss{})
		refused(times, impl.Gauss{A: 1001})
	}
}

// Promise 30.

func TestOften(t *testing.T) {
	for _, c := range []struct {
		z, p impl.Gauss
		want int
	}{
		{impl.Gauss{A: 10}, impl.Gauss{A: 1, B: -1}, 2},
		{impl.Gauss{A: 10}, impl.Gauss{A: 1, B: 1}, 2},
		{impl.Gauss{A: 10}, impl.Gauss{A: -1, B: 1}, 2},
		{impl.Gauss{A: 10}, impl.Gauss{A: 2, B: 1}, 1},
		{impl.Gauss{A: 10}, impl.Gauss{A: -1, B: -2}, 1},
		{impl.Gauss{A: 10}, impl.Gauss{A: 3}, 0},
		// Units have no primes.
		{impl.Gauss{A: 1}, impl.Gauss{A: 1, B: 1}, 0},
		{impl.Gauss{B: -1}, impl.Gauss{A: 3}, 0},
		{impl.Gauss{A: -1}, impl.Gauss{A: 2, B: 1}, 0},
		// Primes, their associates and powers.
		{impl.Gauss{A: 2, B: 1}, impl.Gauss{A: -1, B: 2}, 1},
		{impl.Gauss{A: 2, B: 1}, impl.Gauss{A: 1, B: 2}, 0},
		{impl.Gauss{A: 3, B: 4}, impl.Gauss{A: 2, B: 1}, 2},
		{impl.Gauss{A: 3, B: 4}, impl.Gauss{A: 2, B: -1}, 0},
		{impl.Gauss{A: 625}, impl.Gauss{A: 1, B: 2}, 4},
		{impl.Gauss{A: 625}, impl.Gauss{A: -2, B: -1}, 4},
		{impl.Gauss{A: -512, B: 512}, impl.Gauss{A: -1, B: -1}, 19},
		{impl.Gauss{B: 512}, impl.Gauss{A: 1, B: 1}, 18},
		{impl.Gauss{A: 729}, impl.Gauss{B: -3}, 6},
		{impl.Gauss{A: -27, B: 54}, impl.Gauss{A: 3}, 3},
		{impl.Gauss{A: 961}, impl.Gauss{A: 31}, 2},
		{impl.Gauss{A: 991}, impl.Gauss{B: 991}, 1},
		{impl.Gauss{A: 991}, impl.Gauss{A: 999, B: -994}, 0},
		{impl.Gauss{A: 994, B: 999}, impl.Gauss{A: 999, B: -994}, 1},
		// Parts at the bounds.
		{impl.Gauss{A: 1000}, impl.Gauss{A: 1, B: 1}, 6},
		{impl.Gauss{A: -1000, B: 1000}, impl.Gauss{A: 1, B: -1}, 7},
		{impl.Gauss{B: -1000}, impl.Gauss{A: 2, B: -1}, 3},
		{impl.Gauss{A: 1000, B: 9}, impl.Gauss{A: -9, B: 1000}, 1},
		{impl.Gauss{A: 1001}, impl.Gauss{A: 7}, -1},
		{impl.Gauss{A: 7}, impl.Gauss{A: 1019}, -1},
		// 0, and numbers that are no primes.
		{impl.Gauss{}, impl.Gauss{A: 3}, -1},
		{impl.Gauss{}, impl.Gauss{}, -1},
		{impl.Gauss{A: 10}, impl.Gauss{}, -1},
		{impl.Gauss{A: 10}, impl.Gauss{A: 1}, -1},
		{impl.Gauss{A: 10}, impl.Gauss{B: -1}, -1},
		{impl.Gauss{A: 10}, impl.Gauss{A: 2}, -1},
		{impl.Gauss{A: 10}, impl.Gauss{A: 5}, -1},
		{impl.Gauss{A: 10}, impl.Gauss{A: 10}, -1},
		{impl.Gauss{A: 10}, impl.Gauss{A: 3, B: 1}, -1},
		{impl.Gauss{A: 10}, impl.Gauss{A: 9}, -1},
	} {
		if got := impl.OftenOf(c.z, c.p); got != c.want {
			t.Error(c, got)
		}
	}
}

func TestOftenIsCountedAmongFactors(t *testing.T) {
	primes := append(quarterPrimes(50), impl.Gauss{A: 31}, impl.Gauss{A: 31, B: 6}, impl.Gauss{A: 991}, impl.Gauss{A: 994, B: 999})
	for _, z := range slices.Concat(sampleNumbers(), smallNumbers(16)) {
		_, list, ok := impl.FactorsOf(z)
		for _, p := range primes {
			want := 0
			for power := p; ok && divides(power, z); power = timesBoth(power, p) {
				want++
			}
			if !ok {
				want = -1
			}
			for times := range units {
				if got := impl.OftenOf(z, timesUnit(p, times)); got != want {
					t.Fatal(z, p, times, got)
				}
			}
			among := 0
			for _, q := range list {
				if q == p {
					among++
				}
			}
			if ok && among != want {
				t.Fatal(z, p, list, want)
			}
		}
	}
}

func TestOftenIsAddedForProducts(t *testing.T) {
	primes := []impl.Gauss{{A: 1, B: 1}, {A: 1, B: -1}, {A: 2, B: 1}, {A: -1, B: 2}, {A: 1, B: 2}, {B: -3}, {A: -3, B: 2}, {A: 7}, {A: 19}, {A: 6, B: 1}}
	for _, list := range [][]impl.Gauss{smallNumbers(8), fewNumbers()} {
		for _, z := range list {
			for _, w := range list {
				product, told := impl.TimesOf(z, w)
				if !told || product == (impl.Gauss{}) {
					continue
				}
				for _, p := range primes {
					if impl.OftenOf(product, p) != impl.OftenOf(z, p)+impl.OftenOf(w, p) {
						t.Fatal(z, w, p)
					}
				}
			}
		}
	}
}

func TestOftenOfWrongNumbers(t *testing.T) {
	for _, z := range []impl.Gauss{{}, {A: 1}, {A: 10}, {A: 1, B: 1}, {A: 1000, B: -1000}, {A: 729}} {
		for _, p := range slices.Concat(noPrimes, farPrimes, wrongNumbers()) {
			if got := impl.OftenOf(z, p); got != -1 {
				t.Error(z, p, got)
			}
		}
	}
	for _, p := range []impl.Gauss{{A: 1, B: 1}, {A: 3}, {A: 2, B: -1}, {B: -991}, {}, {A: 1}, {A: 1019}} {
		for _, z := range slices.Concat(farPrimes, wrongNumbers(), []impl.Gauss{{}}) {
			if got := impl.OftenOf(z, p); got != -1 {
				t.Error(z, p, got)
			}
		}
	}
}

// Promise 31.

func TestSquareFree(t *testing.T) {
	for _, c := range []struct {
		z    impl.Gauss
		want bool
	}{
		{impl.Gauss{A: 1}, true},
		{impl.Gauss{B: 1}, true},
		{impl.Gauss{A: -1}, true},
		{impl.Gauss{B: -1}, true},
		{impl.Gauss{A: 1, B: 1}, true},
		{impl.Gauss{A: 1, B: -1}, true},
		// 2 is a unit times a square, so each whole number that it divides has one.
		{impl.Gauss{A: 2}, false},
		{impl.Gauss{B: 2}, false},
		{impl.Gauss{A: -6}, false},
		{impl.Gauss{A: 10}, false},
		{impl.Gauss{A: 3}, true},
		{impl.Gauss{A: 5}, true},
		{impl.Gauss{B: -15}, true},
		{impl.Gauss{A: 105}, true},
		{impl.Gauss{A: 9}, false},
		{impl.Gauss{A: 25}, false},
		{impl.Gauss{A: -45}, false},
		// Squares of primes with both parts; and norms with squares where none of these divides.
		{impl.Gauss{A: 3, B: 4}, false},
		{impl.Gauss{A: -4, B: 3}, false},
		{impl.Gauss{A: 5, B: 10}, false},
		{impl.Gauss{A: 7, B: 1}, false},
		{impl.Gauss{A: 3, B: 3}, true},
		{impl.Gauss{A: 3, B: 1}, true},
		{impl.Gauss{A: 5, B: 5}, true},
		{impl.Gauss{A: 15, B: -15}, true},
		{impl.Gauss{A: 4, B: 2}, false},
		{impl.Gauss{A: 3, B: 6}, true},
		{impl.Gauss{A: 9, B: 18}, false},
		{impl.Gauss{A: 18, B: 26}, false},
		// A square of a great prime, and a great prime alone.
		{impl.Gauss{A: 961}, false},
		{impl.Gauss{A: 991}, true},
		{impl.Gauss{A: 991, B: -991}, true},
		{impl.Gauss{A: 997}, true},
		{impl.Gauss{A: 925, B: 372}, false},
		{impl.Gauss{A: 999, B: -994}, true},
		{impl.Gauss{A: 986, B: 981}, true},
		{impl.Gauss{A: 1000, B: 9}, true},
		// Parts at the bounds.
		{impl.Gauss{A: 1000}, false},
		{impl.Gauss{B: -1000}, false},
		{impl.Gauss{A: -1000, B: 1000}, false},
		{impl.Gauss{A: -1000, B: 999}, true},
		{impl.Gauss{}, false},
		{impl.Gauss{A: 1001}, false},
		{impl.Gauss{B: -1001}, false},
	} {
		if got := impl.SquareFreeOk(c.z); got != c.want {
			t.Error(c, got)
		}
	}
}

func TestWithoutSquaresOfPrimes(t *testing.T) {
	primes := quarterPrimes(57)
	for _, z := range smallNumbers(40) {
		// A prime whose square divides z has at most the root of its norm, 3200.
		want := z != impl.Gauss{} && !slices.ContainsFunc(primes, func(p impl.Gauss) bool {
			return divides(timesBoth(p, p), z)
		})
		if got := impl.SquareFreeOk(z); got != want {
			t.Fatal(z, got)
		}
	}
}

func TestWithoutSquaresEachPrimeIsThereOnce(t *testing.T) {
	for _, z := range factorSamples() {
		got := impl.SquareFreeOk(z)
		_, list, ok := impl.FactorsOf(z)
		once := ok
		for _, p := range list {
			once = once && impl.OftenOf(z, p) == 1
		}
		if got != once || got != impl.SquareFreeOk(impl.OverOf(z)) || got != impl.SquareFreeOk(timesUnit(z, 1)) || !got && impl.UnitOk(z) {
			t.Fatal(z, got, list)
		}
	}
}

func TestWithoutSquaresOfWrongNumbers(t *testing.T) {
	for _, z := range slices.Concat(farPrimes, wrongNumbers(), []impl.Gauss{{}}) {
		if impl.SquareFreeOk(z) {
			t.Error(z)
		}
	}
}
