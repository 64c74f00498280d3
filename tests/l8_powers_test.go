package tests

import (
	"math"
	"slices"
	"testing"

	"loop.example/gaussnumbers/impl"
)

// wrongPowers are out of 0..1000: just past it, and where an int wraps around or is cut off.
var wrongPowers = []int{-1, 1001, -2, 1002, -1000, 2000, 1 << 32, 1<<32 + 1, -1<<32 + 5, 1 << 62, math.MinInt, math.MinInt + 1, math.MaxInt}

// someModules are few for tests that take long: units, 1+i, primes, powers of these, products of different ones, and those of the greatest norm.
var someModules = []impl.Gauss{{A: 1}, {B: -1}, {A: 1, B: 1}, {A: 2}, {B: -2}, {A: 2, B: 1}, {A: 1, B: 2}, {A: 3}, {B: 3}, {A: 3, B: 1}, {A: 3, B: 4}, {A: 5}, {A: -4, B: 4}, {A: 6}, {B: 7}, {A: 8}, {A: -9}, {A: 9, B: 4}, {A: 6, B: 8}, {A: 10}, {B: -10}}

// restTold is the rest in the square of m, told apart from RestOf.
func restTold(z, m impl.Gauss) impl.Gauss {
	return apartBy(z, timesBoth(nearestTo(z, m), m))
}

// timesTold is the rest of a product, told apart from MultipliedBy.
func timesTold(z, w, m impl.Gauss) impl.Gauss {
	return restTold(timesBoth(restTold(z, m), restTold(w, m)), m)
}

// apartTold: units alone divide both, told apart from ApartOk by a look at each number of the first quarter that may divide m.
func apartTold(z, m impl.Gauss) bool {
	for _, w := range divisorsUpTo(10, m, m) {
		if normOf(w) > 1 && divides(w, z) {
			return false
		}
	}
	return true
}

// restsTold are all rests of m in the order of RestsOf.
func restsTold(m impl.Gauss) []impl.Gauss {
	return slices.DeleteFunc(smallNumbers(8), func(z impl.Gauss) bool {
		return !inSquare(z, m)
	})
}

// restsApart are those that have nothing in common with m.
func restsApart(m impl.Gauss) []impl.Gauss {
	return slices.DeleteFunc(restsTold(m), func(z impl.Gauss) bool {
		return !apartTold(z, m)
	})
}

// powerSamples are all rests of m, numbers near to them, and numbers far from them.
func powerSamples(m impl.Gauss) []impl.Gauss {
	return slices.Concat(restsTold(m), fewNumbers(), []impl.Gauss{m, {A: -m.B, B: m.A}, {A: m.A + 1, B: m.B}, {A: m.A, B: m.B - 1}})
}

// wrongForRests calls look with each wrong number or wrong modulus beside others, a wrong one among both each time.
func wrongForRests(look func(z, m impl.Gauss)) {
	some := []impl.Gauss{{}, {A: 1}, {B: -1}, {A: 1, B: 1}, {A: 3}, {A: 10}, {A: -1000, B: 1000}}
	wrong := wrongNumbers()
	for _, z := range wrong {
		for _, w := range some {
			look(z, w)
			look(w, z)
		}
		look(z, z)
	}
	for _, m := range slices.Concat(greatModules, wrapModules, []impl.Gauss{{}}) {
		for _, z := range append(some, wrong...) {
			look(z, m)
		}
	}
	look(impl.Gauss{A: 1001}, impl.Gauss{A: 2})
	look(impl.Gauss{B: -1001}, impl.Gauss{A: 1})
}

// Promise 38.

func TestPowersOfRests(t *testing.T) {
	for _, c := range []struct {
		z     impl.Gauss
		times int
		m     impl.Gauss
		want  impl.Gauss
	}{
		{impl.Gauss{A: 1, B: 1}, 0, impl.Gauss{A: 3}, impl.Gauss{A: 1}},
		{impl.Gauss{A: 1, B: 1}, 1, impl.Gauss{A: 3}, impl.Gauss{A: 1, B: 1}},
		{impl.Gauss{A: 1, B: 1}, 2, impl.Gauss{A: 3}, impl.Gauss{B: -1}},
		{impl.Gauss{A: 1, B: 1}, 3, impl.Gauss{A: 3}, impl.Gauss{A: 1, B: -1}},
		{impl.Gauss{A: 1, B: 1}, 4, impl.Gauss{A: 3}, impl.Gauss{A: -1}},
		{impl.Gauss{A: 1, B: 1}, 8, impl.Gauss{A: 3}, impl.Gauss{A: 1}},
		{impl.Gauss{A: 1, B: 1}, 1000, impl.Gauss{A: 3}, impl.Gauss{A: 1}},
		{impl.Gauss{A: 1, B: 1}, 999, impl.Gauss{A: 3}, impl.Gauss{A: -1, B: 1}},
		{impl.Gauss{B: 1}, 1000, impl.Gauss{A: 10}, impl.Gauss{A: 1}},
		{impl.Gauss{B: 1}, 999, impl.Gauss{A: 10}, impl.Gauss{B: -1}},
		{impl.Gauss{A: 3}, 1000, impl.Gauss{A: 10}, impl.Gauss{A: 1}},
		{impl.Gauss{A: 2}, 1000, impl.Gauss{A: 10}, impl.Gauss{A: -4}},
		{impl.Gauss{A: 2}, 1000, impl.Gauss{A: 9}, impl.Gauss{A: -2}},
		// Once is the rest, not the number.
		{impl.Gauss{A: 1000, B: -1000}, 1, impl.Gauss{A: 7}, impl.Gauss{A: -1, B: 1}},
		{impl.Gauss{A: 5, B: 5}, 1, impl.Gauss{A: 10}, impl.Gauss{A: -5, B: -5}},
		// By 1+i and its associates, 2 and its associates: the rest of 1 is not 1.
		{impl.Gauss{A: 3}, 0, impl.Gauss{A: 1, B: 1}, impl.Gauss{B: -1}},
		{impl.Gauss{A: 3}, 5, impl.Gauss{A: 1, B: 1}, impl.Gauss{B: -1}},
		{impl.Gauss{A: 4}, 0, impl.Gauss{A: 1, B: -1}, impl.Gauss{A: -1}},
		{impl.Gauss{A: 3}, 0, impl.Gauss{A: 2}, impl.Gauss{A: -1}},
		{impl.Gauss{B: 1}, 3, impl.Gauss{A: 2}, impl.Gauss{B: -1}},
		{impl.Gauss{B: 1}, 4, impl.Gauss{B: 2}, impl.Gauss{A: 1}},
		// By units 0 is the only rest.
		{impl.Gauss{A: 7, B: 2}, 0, impl.Gauss{A: 1}, impl.Gauss{}},
		{impl.Gauss{A: 7, B: 2}, 1, impl.Gauss{B: 1}, impl.Gauss{}},
		{impl.Gauss{A: 1000}, 1000, impl.Gauss{A: -1}, impl.Gauss{}},
		{impl.Gauss{}, 0, impl.Gauss{B: -1}, impl.Gauss{}},
		// 0, the modulus, and rests of which some power is 0.
		{impl.Gauss{}, 0, impl.Gauss{A: 3}, impl.Gauss{A: 1}},
		{impl.Gauss{}, 1, impl.Gauss{A: 3}, impl.Gauss{}},
		{impl.Gauss{}, 1000, impl.Gauss{A: 3}, impl.Gauss{}},
		{impl.Gauss{A: 6, B: 8}, 0, impl.Gauss{A: 6, B: 8}, impl.Gauss{A: 1}},
		{impl.Gauss{A: 6, B: 8}, 2, impl.Gauss{A: 6, B: 8}, impl.Gauss{}},
		{impl.Gauss{A: 1, B: 1}, 5, impl.Gauss{A: 8}, impl.Gauss{A: -4, B: -4}},
		{impl.Gauss{A: 1, B: 1}, 6, impl.Gauss{A: 8}, impl.Gauss{}},
		{impl.Gauss{A: 1, B: 1}, 1000, impl.Gauss{A: 8}, impl.Gauss{}},
	} {
		if got, ok := impl.PowerOf(c.z, c.times, c.m); got != c.want || !ok {
			t.Error(c, got, ok)
		}
	}
}

// powersFit looks at each power of z up to so many times.
func powersFit(t *testing.T, z, m impl.Gauss, most int) {
	t.Helper()
	want := restTold(impl.Gauss{A: 1}, m)
	for times := range most + 1 {
		got, ok := impl.PowerOf(z, times, m)
		if got != want || !ok {
			t.Fatal(z, times, m, got, ok, want)
		}
		want = timesTold(want, z, m)
		if product, ok := impl.MultipliedBy(got, z, m); product != want || !ok {
			t.Fatal(z, times, m, product, ok, want)
		}
	}
}

func TestPowersAreAdded(t *testing.T) {
	for _, m := range fewModules() {
		for _, z := range powerSamples(m) {
			powersFit(t, z, m, 20)
		}
	}
	for _, m := range someModules {
		for _, z := range []impl.Gauss{{}, {A: 1}, {B: 1}, {A: 1, B: 1}, {A: 2, B: -1}, {A: 3}, {A: -4, B: 7}, {A: 997}, {A: -1000, B: 999}} {
			powersFit(t, z, m, 1000)
		}
	}
}

func TestPowersOfSumsOfTimesAreProducts(t *testing.T) {
	for _, m := range someModules {
		for _, z := range restsTold(m) {
			for _, times := range []int{0, 1, 2, 31, 32, 33, 500} {
				for _, more := range []int{0, 1, 7, 64, 255, 256, 500} {
					first, _ := impl.PowerOf(z, times, m)
					second, _ := impl.PowerOf(z, more, m)
					want := timesTold(first, second, m)
					if got, ok := impl.PowerOf(z, times+more, m); got != want || !ok {
						t.Fatal(z, times, more, m, got, ok, want)
					}
				}
			}
		}
	}
}

func TestPowersOfAsManyTimesAsApartAreOne(t *testing.T) {
	for _, m := range fewModules() {
		one := restTold(impl.Gauss{A: 1}, m)
		count := impl.CountApart(m)
		for _, z := range append(powerSamples(m), sampleNumbers()...) {
			got, ok := impl.PowerOf(z, count, m)
			if apartTold(z, m) != (got == one) || !ok {
				t.Fatal(z, m, count, got, ok)
			}
		}
	}
}

func TestPowersOfWrongNumbers(t *testing.T) {
	refused := func(z impl.Gauss, times int, m impl.Gauss) {
		t.Helper()
		if got, ok := impl.PowerOf(z, times, m); got != (impl.Gauss{}) || ok {
			t.Fatal(z, times, m, got, ok)
		}
	}
	wrongForRests(func(z, m impl.Gauss) {
		for _, times := range []int{0, 1, 2, 1000, -1, 1001} {
			refused(z, times, m)
		}
	})
	for _, m := range fewModules() {
		for _, times := range wrongPowers {
			for _, z := range []impl.Gauss{{}, {A: 1}, {B: -1}, {A: 2, B: 1}, {A: 1000, B: 1000}} {
				refused(z, times, m)
			}
		}
	}
}

// Promise 39.

func TestRestsUndone(t *testing.T) {
	for _, c := range []struct {
		z, m, want impl.Gauss
		ok         bool
	}{
		{impl.Gauss{A: 1, B: 1}, impl.Gauss{A: 3}, impl.Gauss{A: -1, B: 1}, true},
		{impl.Gauss{A: -1, B: 1}, impl.Gauss{A: 3}, impl.Gauss{A: 1, B: 1}, true},
		{impl.Gauss{A: 2}, impl.Gauss{A: 3}, impl.Gauss{A: -1}, true},
		{impl.Gauss{A: 1}, impl.Gauss{A: 3}, impl.Gauss{A: 1}, true},
		{impl.Gauss{B: 1}, impl.Gauss{A: 3}, impl.Gauss{B: -1}, true},
		{impl.Gauss{A: 2}, impl.Gauss{A: 2, B: 1}, impl.Gauss{B: 1}, true},
		{impl.Gauss{A: 3}, impl.Gauss{A: 10}, impl.Gauss{A: -3}, true},
		{impl.Gauss{A: 7}, impl.Gauss{A: 10}, impl.Gauss{A: 3}, true},
		{impl.Gauss{A: 2}, impl.Gauss{A: 9}, impl.Gauss{A: -4}, true},
		// Numbers far from their rests.
		{impl.Gauss{A: 1000, B: 1000}, impl.Gauss{A: 3}, impl.Gauss{A: -1, B: 1}, true},
		{impl.Gauss{A: 997}, impl.Gauss{A: 10}, impl.Gauss{A: 3}, true},
		{impl.Gauss{A: -993}, impl.Gauss{A: -10}, impl.Gauss{A: 3}, true},
		// The rest of 1 may be another number.
		{impl.Gauss{A: 1}, impl.Gauss{A: 2}, impl.Gauss{A: -1}, true},
		{impl.Gauss{B: 1}, impl.Gauss{A: 2}, impl.Gauss{B: -1}, true},
		{impl.Gauss{A: 7}, impl.Gauss{A: 1, B: 1}, impl.Gauss{B: -1}, true},
		{impl.Gauss{A: 7}, impl.Gauss{A: -1, B: -1}, impl.Gauss{B: 1}, true},
		// By units 0 undoes all.
		{impl.Gauss{}, impl.Gauss{A: 1}, impl.Gauss{}, true},
		{impl.Gauss{A: 7, B: 2}, impl.Gauss{A: -1}, impl.Gauss{}, true},
		{impl.Gauss{A: 1000, B: -1000}, impl.Gauss{B: 1}, impl.Gauss{}, true},
		{impl.Gauss{}, impl.Gauss{B: -1}, impl.Gauss{}, true},
		// What has something in common, and 0.
		{impl.Gauss{A: 3}, impl.Gauss{A: 3}, impl.Gauss{}, false},
		{impl.Gauss{}, impl.Gauss{A: 3}, impl.Gauss{}, false},
		{impl.Gauss{}, impl.Gauss{A: 1, B: 1}, impl.Gauss{}, false},
		{impl.Gauss{A: 2}, impl.Gauss{A: 1, B: 1}, impl.Gauss{}, false},
		{impl.Gauss{A: 1, B: 1}, impl.Gauss{A: 2}, impl.Gauss{}, false},
		{impl.Gauss{A: 5}, impl.Gauss{A: 2, B: 1}, impl.Gauss{}, false},
		{impl.Gauss{A: 2, B: 1}, impl.Gauss{A: 10}, impl.Gauss{}, false},
		{impl.Gauss{A: 999}, impl.Gauss{A: 9}, impl.Gauss{}, false},
		{impl.Gauss{A: 1, B: 7}, impl.Gauss{A: 6, B: 8}, impl.Gauss{}, false},
		// No modulus.
		{impl.Gauss{A: 1}, impl.Gauss{}, impl.Gauss{}, false},
		{impl.Gauss{A: 1}, impl.Gauss{A: 10, B: 1}, impl.Gauss{}, false},
		{impl.Gauss{A: 1}, impl.Gauss{A: 1000}, impl.Gauss{}, false},
		{impl.Gauss{A: 1}, impl.Gauss{A: 1001}, impl.Gauss{}, false},
		{impl.Gauss{A: 1001}, impl.Gauss{A: 1}, impl.Gauss{}, false},
	} {
		if got, ok := impl.UndoneBy(c.z, c.m); got != c.want || ok != c.ok {
			t.Error(c, got, ok)
		}
	}
}

// undoneTold is the first rest whose product with z is the rest of 1.
func undoneTold(z, m impl.Gauss) (impl.Gauss, bool) {
	one := restTold(impl.Gauss{A: 1}, m)
	list := restsTold(m)
	n := slices.IndexFunc(list, func(w impl.Gauss) bool {
		return timesTold(z, w, m) == one
	})
	if n < 0 {
		return impl.Gauss{}, false
	}
	return list[n], true
}

func TestWhoIsApartCanBeUndone(t *testing.T) {
	for _, m := range fewModules() {
		one, _ := impl.RestOf(impl.Gauss{A: 1}, m)
		for _, z := range powerSamples(m) {
			got, ok := impl.UndoneBy(z, m)
			if want, okToo := undoneTold(z, m); got != want || ok != okToo {
				t.Fatal(z, m, got, ok, want)
			}
			if ok != impl.ApartOk(z, m) || ok != apartTold(z, m) {
				t.Fatal(z, m, ok)
			}
			if !ok {
				continue
			}
			if product, ok := impl.MultipliedBy(z, got, m); product != one || !ok {
				t.Fatal(z, m, got, product, ok)
			}
			rest, _ := impl.RestOf(z, m)
			if back, ok := impl.UndoneBy(got, m); back != rest || !ok {
				t.Fatal(z, m, got, back, ok)
			}
		}
	}
}

func TestNumbersAreUndoneAsTheirRests(t *testing.T) {
	for _, m := range fewModules() {
		for _, z := range sampleNumbers() {
			got, ok := impl.UndoneBy(z, m)
			want, okToo := impl.UndoneBy(restTold(z, m), m)
			if got != want || ok != okToo || ok != apartTold(z, m) {
				t.Fatal(z, m, got, ok, want, okToo)
			}
		}
	}
}

func TestUndoneOfWrongNumbers(t *testing.T) {
	wrongForRests(func(z, m impl.Gauss) {
		if got, ok := impl.UndoneBy(z, m); got != (impl.Gauss{}) || ok {
			t.Fatal(z, m, got, ok)
		}
	})
}

// Promise 40.

func TestCountsApart(t *testing.T) {
	for _, c := range []struct {
		m    impl.Gauss
		want int
	}{
		// Units, primes and powers of primes.
		{impl.Gauss{A: 1}, 1},
		{impl.Gauss{B: 1}, 1},
		{impl.Gauss{A: -1}, 1},
		{impl.Gauss{B: -1}, 1},
		{impl.Gauss{A: 1, B: 1}, 1},
		{impl.Gauss{A: -1, B: 1}, 1},
		{impl.Gauss{A: 2}, 2},
		{impl.Gauss{A: 2, B: 2}, 4},
		{impl.Gauss{A: 4}, 8},
		{impl.Gauss{A: 8}, 32},
		{impl.Gauss{A: 2, B: 1}, 4},
		{impl.Gauss{A: 3, B: 4}, 20},
		{impl.Gauss{A: 3}, 8},
		{impl.Gauss{B: -3}, 8},
		{impl.Gauss{A: 9}, 72},
		{impl.Gauss{A: 7}, 48},
		{impl.Gauss{A: 9, B: 4}, 96},
		// Products of different primes.
		{impl.Gauss{A: 5}, 16},
		{impl.Gauss{A: 3, B: 1}, 4},
		{impl.Gauss{A: 3, B: 3}, 8},
		{impl.Gauss{A: 6}, 16},
		{impl.Gauss{A: 6, B: 3}, 32},
		{impl.Gauss{A: 8, B: 1}, 48},
		// The greatest norm, and one more.
		{impl.Gauss{A: 10}, 32},
		{impl.Gauss{B: -10}, 32},
		{impl.Gauss{A: 6, B: 8}, 40},
		{impl.Gauss{A: -8, B: 6}, 40},
		{impl.Gauss{A: 10, B: 1}, -1},
		{impl.Gauss{A: 11}, -1},
		{impl.Gauss{}, -1},
		{impl.Gauss{A: 1000}, -1},
		{impl.Gauss{A: 1001}, -1},
		{impl.Gauss{A: 1, B: -1001}, -1},
	} {
		if got := impl.CountApart(c.m); got != c.want {
			t.Error(c, got)
		}
	}
}

func TestAsManyAreApartAsAreCounted(t *testing.T) {
	for _, m := range fewModules() {
		count := 0
		for _, z := range impl.RestsOf(m) {
			if impl.ApartOk(z, m) {
				count++
			}
		}
		if got := impl.CountApart(m); got != count || got != len(restsApart(m)) {
			t.Error(m, got, count)
		}
	}
}

func TestCountsOfModulesApartAreMultiplied(t *testing.T) {
	some := 0
	for _, m := range fewModules() {
		for _, n := range fewModules() {
			product, ok := impl.TimesOf(m, n)
			if !ok || !impl.ModulusOk(product) {
				continue
			}
			both := impl.CountApart(m) * impl.CountApart(n)
			got := impl.CountApart(product)
			// Two that are not apart share a prime, so more are apart from their product.
			if apartTold(m, n) && got != both || !apartTold(m, n) && got <= both {
				t.Fatal(m, n, got, both)
			}
			if apartTold(m, n) && normOf(m) > 1 && normOf(n) > 1 {
				some++
			}
		}
	}
	if some == 0 {
		t.Error("no two are apart")
	}
}

func TestCountsApartOfWrongModules(t *testing.T) {
	wrong := slices.Concat(wrongNumbers(), greatModules, wrapModules, []impl.Gauss{{}})
	for _, m := range wrong {
		if got := impl.CountApart(m); got != -1 {
			t.Error(m, got)
		}
	}
}

// Promise 41.

func TestOrders(t *testing.T) {
	for _, c := range []struct {
		z, m impl.Gauss
		want int
	}{
		{impl.Gauss{A: 1, B: 1}, impl.Gauss{A: 3}, 8},
		{impl.Gauss{A: 1, B: -1}, impl.Gauss{A: 3}, 8},
		{impl.Gauss{B: 1}, impl.Gauss{A: 3}, 4},
		{impl.Gauss{A: -1}, impl.Gauss{A: 3}, 2},
		{impl.Gauss{A: 2}, impl.Gauss{A: 3}, 2},
		{impl.Gauss{A: 1}, impl.Gauss{A: 3}, 1},
		{impl.Gauss{A: 4}, impl.Gauss{A: 3}, 1},
		{impl.Gauss{A: 2}, impl.Gauss{A: 2, B: 1}, 4},
		{impl.Gauss{B: 1}, impl.Gauss{A: 2, B: 1}, 4},
		{impl.Gauss{A: 3}, impl.Gauss{A: 10}, 4},
		{impl.Gauss{A: 2}, impl.Gauss{A: 9}, 6},
		{impl.Gauss{B: 1}, impl.Gauss{A: 2}, 2},
		{impl.Gauss{A: 2, B: 1}, impl.Gauss{A: 2}, 2},
		// 5 has order 96 by this prime of norm 97.
		{impl.Gauss{A: 5}, impl.Gauss{A: 9, B: 4}, 96},
		{impl.Gauss{A: 1000, B: 1000}, impl.Gauss{A: 3}, 8},
		// By units, and by 1+i: all that are apart leave the rest of 1.
		{impl.Gauss{A: 1}, impl.Gauss{A: 1}, 1},
		{impl.Gauss{}, impl.Gauss{B: 1}, 1},
		{impl.Gauss{A: 7, B: -3}, impl.Gauss{A: -1}, 1},
		{impl.Gauss{A: 1000, B: -1000}, impl.Gauss{B: -1}, 1},
		{impl.Gauss{A: 7}, impl.Gauss{A: 1, B: 1}, 1},
		{impl.Gauss{B: 1}, impl.Gauss{A: -1, B: 1}, 1},
		// What has something in common, and 0.
		{impl.Gauss{}, impl.Gauss{A: 3}, -1},
		{impl.Gauss{A: 3}, impl.Gauss{A: 3}, -1},
		{impl.Gauss{A: 6, B: -9}, impl.Gauss{A: 3}, -1},
		{impl.Gauss{A: 1, B: 1}, impl.Gauss{A: 10}, -1},
		{impl.Gauss{A: 5}, impl.Gauss{A: 2, B: -1}, -1},
		{impl.Gauss{A: 8}, impl.Gauss{A: 1, B: 1}, -1},
		// -4 is its own square here, but no power is the rest of 1.
		{impl.Gauss{A: -4}, impl.Gauss{A: 10}, -1},
		// No modulus.
		{impl.Gauss{A: 1}, impl.Gauss{}, -1},
		{impl.Gauss{A: 1}, impl.Gauss{A: 10, B: 1}, -1},
		{impl.Gauss{A: 1}, impl.Gauss{A: 1000}, -1},
		{impl.Gauss{A: 1}, impl.Gauss{A: 1001}, -1},
		{impl.Gauss{A: 1001}, impl.Gauss{A: 1}, -1},
	} {
		if got := impl.OrderOf(c.z, c.m); got != c.want {
			t.Error(c, got)
		}
	}
}

// orderTold looks at the powers one after the other, until these are told again.
func orderTold(z, m impl.Gauss) int {
	one := restTold(impl.Gauss{A: 1}, m)
	power := one
	for times := 1; times <= normOf(m); times++ {
		power = timesTold(power, z, m)
		if power == one {
			return times
		}
	}
	return -1
}

func TestOrdersDivideHowManyAreApart(t *testing.T) {
	for _, m := range fewModules() {
		one, _ := impl.RestOf(impl.Gauss{A: 1}, m)
		count := impl.CountApart(m)
		for _, z := range powerSamples(m) {
			order := impl.OrderOf(z, m)
			if order != orderTold(z, m) || (order != -1) != impl.ApartOk(z, m) || (order != -1) != apartTold(z, m) {
				t.Fatal(z, m, order)
			}
			if order == -1 {
				continue
			}
			if order < 1 || count%order != 0 {
				t.Fatal(z, m, order, count)
			}
			if power, ok := impl.PowerOf(z, order, m); power != one || !ok {
				t.Fatal(z, m, order, power, ok)
			}
		}
	}
}

func TestOrdersAreTheLeastTimes(t *testing.T) {
	for _, m := range someModules {
		one := restTold(impl.Gauss{A: 1}, m)
		for _, z := range restsApart(m) {
			order := impl.OrderOf(z, m)
			for times := range 201 {
				power, _ := impl.PowerOf(z, times, m)
				if (power == one) != (times%order == 0) {
					t.Fatal(z, m, order, times, power)
				}
			}
		}
	}
}

func TestOrdersOfNumbersAreThoseOfTheirRests(t *testing.T) {
	for _, m := range fewModules() {
		for _, z := range sampleNumbers() {
			if order := impl.OrderOf(z, m); order != impl.OrderOf(restTold(z, m), m) || (order != -1) != apartTold(z, m) {
				t.Fatal(z, m, order)
			}
		}
	}
}

func TestOrdersOfWrongNumbers(t *testing.T) {
	wrongForRests(func(z, m impl.Gauss) {
		if got := impl.OrderOf(z, m); got != -1 {
			t.Fatal(z, m, got)
		}
	})
}
