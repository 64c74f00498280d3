package tests

import (
	"math"
	"testing"

	"loop.example/gaussnumbers/impl"
)

// normOf, timesBoth and nearestOk are told apart from the program, so that tests do not rest on it.
func normOf(z impl.Gauss) int {
	return z.A*z.A + z.B*z.B
}

func timesBoth(z, w impl.Gauss) impl.Gauss {
	return impl.Gauss{A: z.A*w.A - z.B*w.B, B: z.A*w.B + z.B*w.A}
}

// nearestOk: n divided by size is less than a half above the quotient, or at most a half below it.
func nearestOk(quotient, n, size int) bool {
	apart := 2 * (n - quotient*size)
	return -size <= apart && apart < size
}

// smallNumbers are all numbers with parts up to most, without their signs.
func smallNumbers(most int) []impl.Gauss {
	var parts []int
	for n := -most; n <= most; n++ {
		parts = append(parts, n)
	}
	return pairsOf(parts, parts)
}

// Promise 14.

func TestQuotientsAndRests(t *testing.T) {
	for _, c := range []struct {
		z, w, quotient, rest impl.Gauss
	}{
		{impl.Gauss{A: 7, B: 1}, impl.Gauss{A: 2, B: 1}, impl.Gauss{A: 3, B: -1}, impl.Gauss{}},
		{impl.Gauss{A: 27, B: -23}, impl.Gauss{A: 8, B: 1}, impl.Gauss{A: 3, B: -3}, impl.Gauss{A: 0, B: -2}},
		{impl.Gauss{A: 5, B: 3}, impl.Gauss{A: 3}, impl.Gauss{A: 2, B: 1}, impl.Gauss{A: -1}},
		{impl.Gauss{A: -5, B: -3}, impl.Gauss{A: 3}, impl.Gauss{A: -2, B: -1}, impl.Gauss{A: 1}},
		{impl.Gauss{}, impl.Gauss{A: -2, B: 7}, impl.Gauss{}, impl.Gauss{}},
		{impl.Gauss{A: 4, B: -9}, impl.Gauss{A: 1}, impl.Gauss{A: 4, B: -9}, impl.Gauss{}},
		{impl.Gauss{A: 4, B: -9}, impl.Gauss{B: 1}, impl.Gauss{A: -9, B: -4}, impl.Gauss{}},
		{impl.Gauss{A: 4, B: -9}, impl.Gauss{A: -1}, impl.Gauss{A: -4, B: 9}, impl.Gauss{}},
		{impl.Gauss{A: 4, B: -9}, impl.Gauss{B: -1}, impl.Gauss{A: 9, B: 4}, impl.Gauss{}},
		{impl.Gauss{A: 1, B: 1}, impl.Gauss{A: 3, B: 1}, impl.Gauss{}, impl.Gauss{A: 1, B: 1}},
		{impl.Gauss{A: 1000, B: 1000}, impl.Gauss{A: 1, B: 1}, impl.Gauss{A: 1000}, impl.Gauss{}},
		{impl.Gauss{A: 1000, B: 1000}, impl.Gauss{A: 1, B: -1}, impl.Gauss{B: 1000}, impl.Gauss{}},
		{impl.Gauss{A: -1000, B: 1000}, impl.Gauss{A: 1000, B: 1000}, impl.Gauss{B: 1}, impl.Gauss{}},
		{impl.Gauss{A: 1000, B: -1000}, impl.Gauss{B: -1}, impl.Gauss{A: 1000, B: 1000}, impl.Gauss{}},
		{impl.Gauss{A: 1000}, impl.Gauss{A: 999}, impl.Gauss{A: 1}, impl.Gauss{A: 1}},
		{impl.Gauss{B: -1000}, impl.Gauss{A: 7}, impl.Gauss{B: -143}, impl.Gauss{B: 1}},
	} {
		if quotient, rest, ok := impl.DividedBy(c.z, c.w); quotient != c.quotient || rest != c.rest || !ok {
			t.Error(c, quotient, rest, ok)
		}
	}
}

func TestHalvesAreRoundedUpwards(t *testing.T) {
	for _, c := range []struct {
		z, w, quotient, rest impl.Gauss
	}{
		{impl.Gauss{A: 1}, impl.Gauss{A: 2}, impl.Gauss{A: 1}, impl.Gauss{A: -1}},
		{impl.Gauss{A: -1}, impl.Gauss{A: 2}, impl.Gauss{}, impl.Gauss{A: -1}},
		{impl.Gauss{A: 1}, impl.Gauss{A: -2}, impl.Gauss{}, impl.Gauss{A: 1}},
		{impl.Gauss{A: -1}, impl.Gauss{A: -2}, impl.Gauss{A: 1}, impl.Gauss{A: 1}},
		{impl.Gauss{B: 1}, impl.Gauss{A: 2}, impl.Gauss{B: 1}, impl.Gauss{B: -1}},
		{impl.Gauss{B: -1}, impl.Gauss{A: 2}, impl.Gauss{}, impl.Gauss{B: -1}},
		{impl.Gauss{A: 3, B: -3}, impl.Gauss{A: 2}, impl.Gauss{A: 2, B: -1}, impl.Gauss{A: -1, B: -1}},
		{impl.Gauss{A: -3, B: 3}, impl.Gauss{A: 2}, impl.Gauss{A: -1, B: 2}, impl.Gauss{A: -1, B: -1}},
		{impl.Gauss{A: -5, B: -5}, impl.Gauss{A: 2}, impl.Gauss{A: -2, B: -2}, impl.Gauss{A: -1, B: -1}},
		{impl.Gauss{A: 1}, impl.Gauss{A: 1, B: 1}, impl.Gauss{A: 1}, impl.Gauss{B: -1}},
		{impl.Gauss{A: -1}, impl.Gauss{A: 1, B: 1}, impl.Gauss{B: 1}, impl.Gauss{B: -1}},
		{impl.Gauss{B: 1}, impl.Gauss{A: 1, B: 1}, impl.Gauss{A: 1, B: 1}, impl.Gauss{B: -1}},
		{impl.Gauss{B: -1}, impl.Gauss{A: 1, B: 1}, impl.Gauss{}, impl.Gauss{B: -1}},
		{impl.Gauss{A: 500, B: -500}, impl.Gauss{A: 1000}, impl.Gauss{A: 1}, impl.Gauss{A: -500, B: -500}},
		{impl.Gauss{A: -500, B: 500}, impl.Gauss{B: -1000}, impl.Gauss{}, impl.Gauss{A: -500, B: 500}},
		{impl.Gauss{A: 999, B: -999}, impl.Gauss{A: 2}, impl.Gauss{A: 500, B: -499}, impl.Gauss{A: -1, B: -1}},
		{impl.Gauss{A: -999, B: 1000}, impl.Gauss{B: 2}, impl.Gauss{A: 500, B: 500}, impl.Gauss{A: 1}},
	} {
		if quotient, rest, ok := impl.DividedBy(c.z, c.w); quotient != c.quotient || rest != c.rest || !ok {
			t.Error(c, quotient, rest, ok)
		}
	}
	for n := -999; n <= 999; n += 2 {
		up := (n + 1) / 2
		if quotient, rest, ok := impl.DividedBy(impl.Gauss{A: n, B: n}, impl.Gauss{A: 2}); quotient != (impl.Gauss{A: up, B: up}) || rest != (impl.Gauss{A: -1, B: -1}) || !ok {
			t.Error(n, quotient, rest, ok)
		}
		// The first part turns to the second one with its sign, and the second one to the first one with the other sign.
		down := (1 - n) / 2
		if quotient, rest, ok := impl.DividedBy(impl.Gauss{A: n, B: n}, impl.Gauss{B: 2}); quotient != (impl.Gauss{A: up, B: down}) || rest != (impl.Gauss{A: 1, B: -1}) || !ok {
			t.Error(n, quotient, rest, ok)
		}
	}
}

// restAtMostHalf looks at one quotient and rest of numbers that are valid, the second one not 0.
func restAtMostHalf(t *testing.T, z, w impl.Gauss) {
	t.Helper()
	quotient, rest, ok := impl.DividedBy(z, w)
	exact, size := timesBoth(z, impl.Gauss{A: w.A, B: -w.B}), normOf(w)
	if !ok || !nearestOk(quotient.A, exact.A, size) || !nearestOk(quotient.B, exact.B, size) {
		t.Fatal(z, w, quotient, rest, ok)
	}
	product := timesBoth(quotient, w)
	if product.A+rest.A != z.A || product.B+rest.B != z.B || 2*normOf(rest) > size {
		t.Fatal(z, w, quotient, rest)
	}
	if !impl.GaussOk(quotient) || !impl.GaussOk(rest) || 2*impl.NormOf(rest) > impl.NormOf(w) {
		t.Fatal(z, w, quotient, rest)
	}
	told, ok := impl.TimesOf(quotient, w)
	if ok != inBounds(product.A, product.B) {
		t.Fatal(z, w, product)
	}
	if whole, okWhole := impl.PlusOf(told, rest); ok && (whole != z || !okWhole) {
		t.Fatal(z, w, quotient, rest)
	}
}

func TestRestsAreAtMostHalf(t *testing.T) {
	for _, list := range [][]impl.Gauss{sampleNumbers(), smallNumbers(9)} {
		for _, z := range list {
			for _, w := range list {
				if w != (impl.Gauss{}) {
					restAtMostHalf(t, z, w)
				}
			}
		}
	}
	for _, z := range onLines() {
		for _, w := range append(fewNumbers(), units...) {
			if w != (impl.Gauss{}) {
				restAtMostHalf(t, z, w)
			}
			if z != (impl.Gauss{}) {
				restAtMostHalf(t, w, z)
			}
		}
	}
}

func TestQuotientsOfNone(t *testing.T) {
	refused := func(z, w impl.Gauss) {
		t.Helper()
		if quotient, rest, ok := impl.DividedBy(z, w); quotient != (impl.Gauss{}) || rest != (impl.Gauss{}) || ok {
			t.Error(z, w, quotient, rest, ok)
		}
	}
	for _, z := range append(sampleNumbers(), wrongNumbers()...) {
		refused(z, impl.Gauss{})
	}
	for _, z := range wrongNumbers() {
		for _, w := range append(fewNumbers(), units...) {
			refused(z, w)
			refused(w, z)
		}
		for _, w := range wrongNumbers() {
			refused(z, w)
		}
	}
	refused(impl.Gauss{A: 1001}, impl.Gauss{A: 1001})
	refused(impl.Gauss{A: 1002}, impl.Gauss{A: 2})
	refused(impl.Gauss{B: -1001}, impl.Gauss{A: 1})
	refused(impl.Gauss{A: 1}, impl.Gauss{A: 1, B: 1001})
}

// Promise 15.

func TestDivisorsAndOthers(t *testing.T) {
	for _, c := range []struct {
		w, z impl.Gauss
		want bool
	}{
		{impl.Gauss{A: 1, B: 1}, impl.Gauss{A: 2}, true},
		{impl.Gauss{A: 2}, impl.Gauss{A: 1, B: 1}, false},
		{impl.Gauss{A: 2, B: 1}, impl.Gauss{A: 5}, true},
		{impl.Gauss{A: 2, B: -1}, impl.Gauss{A: 5}, true},
		{impl.Gauss{A: 2, B: 1}, impl.Gauss{A: 2, B: -1}, false},
		{impl.Gauss{A: 2, B: 1}, impl.Gauss{A: -1, B: 2}, true},
		{impl.Gauss{A: 2, B: 1}, impl.Gauss{A: 3}, false},
		{impl.Gauss{A: 3}, impl.Gauss{A: 3, B: 1}, false},
		{impl.Gauss{A: 3}, impl.Gauss{A: 1, B: 3}, false},
		{impl.Gauss{A: 3}, impl.Gauss{A: 6, B: -9}, true},
		{impl.Gauss{B: -3}, impl.Gauss{A: 6, B: -9}, true},
		{impl.Gauss{A: 1}, impl.Gauss{}, true},
		{impl.Gauss{A: 1000, B: -1000}, impl.Gauss{}, true},
		{impl.Gauss{}, impl.Gauss{}, false},
		{impl.Gauss{}, impl.Gauss{A: 1}, false},
		{impl.Gauss{}, impl.Gauss{A: 1000, B: 1000}, false},
		{impl.Gauss{B: 1}, impl.Gauss{A: -1000, B: 999}, true},
		{impl.Gauss{A: 1, B: 1}, impl.Gauss{A: -1000, B: 1000}, true},
		{impl.Gauss{A: 1, B: 1}, impl.Gauss{A: -1000, B: 999}, false},
		{impl.Gauss{A: 1000, B: 1000}, impl.Gauss{A: -1000, B: 1000}, true},
		{impl.Gauss{A: 1000, B: 1000}, impl.Gauss{A: 1000}, false},
		{impl.Gauss{A: 1}, impl.Gauss{A: 1001}, false},
		{impl.Gauss{A: 1001}, impl.Gauss{A: 1001}, false},
		{impl.Gauss{A: 1001}, impl.Gauss{}, false},
	} {
		if got := impl.DividesOk(c.w, c.z); got != c.want {
			t.Error(c, got)
		}
	}
}

func TestDivisorsAreThoseWithAProduct(t *testing.T) {
	list := smallNumbers(8)
	for _, w := range list {
		multiples := map[impl.Gauss]bool{}
		for _, x := range smallNumbers(12) {
			multiples[timesBoth(w, x)] = true
		}
		for _, z := range list {
			want := w != impl.Gauss{} && multiples[z]
			if got := impl.DividesOk(w, z); got != want {
				t.Fatal(w, z, got)
			}
			_, rest, ok := impl.DividedBy(z, w)
			if want != (ok && rest == impl.Gauss{}) {
				t.Fatal(w, z, rest, ok)
			}
		}
	}
}

func TestDivisorsDivideSumsAndProducts(t *testing.T) {
	list := append(smallNumbers(4), fewNumbers()...)
	for _, w := range list {
		for _, z := range list {
			if !impl.DividesOk(w, z) {
				continue
			}
			if impl.NormOf(z)%impl.NormOf(w) != 0 {
				t.Fatal(w, z)
			}
			if impl.DividesOk(z, w) != impl.AssociateOk(z, w) {
				t.Fatal(w, z)
			}
			for _, x := range list {
				if product, ok := impl.TimesOf(z, x); ok && !impl.DividesOk(w, product) {
					t.Fatal(w, z, x)
				}
				if sum, ok := impl.PlusOf(z, x); ok && impl.DividesOk(w, sum) != impl.DividesOk(w, x) {
					t.Fatal(w, z, x)
				}
			}
		}
	}
}

func TestDivisorsOfNone(t *testing.T) {
	for _, z := range wrongNumbers() {
		for _, w := range append(append(fewNumbers(), units...), z) {
			if impl.DividesOk(w, z) || impl.DividesOk(z, w) {
				t.Error(z, w)
			}
		}
	}
}

// Promise 16.

func TestExactQuotients(t *testing.T) {
	for _, c := range []struct {
		z, w, want impl.Gauss
		ok         bool
	}{
		{impl.Gauss{A: 5}, impl.Gauss{A: 2, B: 1}, impl.Gauss{A: 2, B: -1}, true},
		{impl.Gauss{A: 3}, impl.Gauss{A: 2, B: 1}, impl.Gauss{}, false},
		{impl.Gauss{A: 1}, impl.Gauss{A: 2}, impl.Gauss{}, false},
		{impl.Gauss{}, impl.Gauss{A: 2}, impl.Gauss{}, true},
		{impl.Gauss{}, impl.Gauss{}, impl.Gauss{}, false},
		{impl.Gauss{A: 2}, impl.Gauss{}, impl.Gauss{}, false},
		{impl.Gauss{A: 2}, impl.Gauss{A: 1, B: 1}, impl.Gauss{A: 1, B: -1}, true},
		{impl.Gauss{A: 7, B: -4}, impl.Gauss{B: 1}, impl.Gauss{A: -4, B: -7}, true},
		{impl.Gauss{A: 6, B: -9}, impl.Gauss{A: -3}, impl.Gauss{A: -2, B: 3}, true},
		{impl.Gauss{A: 6, B: -9}, impl.Gauss{B: 3}, impl.Gauss{A: -3, B: -2}, true},
		{impl.Gauss{A: -1000, B: 1000}, impl.Gauss{A: 1, B: 1}, impl.Gauss{B: 1000}, true},
		{impl.Gauss{A: 1000, B: 1000}, impl.Gauss{A: 1000, B: -1000}, impl.Gauss{B: 1}, true},
		{impl.Gauss{A: 1000, B: 999}, impl.Gauss{A: 1, B: 1}, impl.Gauss{}, false},
		{impl.Gauss{A: 1001}, impl.Gauss{A: 1}, impl.Gauss{}, false},
		{impl.Gauss{A: 1}, impl.Gauss{A: 1001}, impl.Gauss{}, false},
	} {
		if got, ok := impl.ExactOf(c.z, c.w); got != c.want || ok != c.ok {
			t.Error(c, got, ok)
		}
	}
}

func TestExactQuotientsAreToldBack(t *testing.T) {
	list := append(sampleNumbers(), smallNumbers(5)...)
	for _, z := range list {
		for _, w := range list {
			got, ok := impl.ExactOf(z, w)
			if ok != impl.DividesOk(w, z) || !ok && got != (impl.Gauss{}) {
				t.Fatal(z, w, got, ok)
			}
			if ok {
				if product, told := impl.TimesOf(got, w); product != z || !told {
					t.Fatal(z, w, got)
				}
				if impl.NormOf(got) != impl.NormOf(z)/impl.NormOf(w) {
					t.Fatal(z, w, got)
				}
			}
			product, told := impl.TimesOf(z, w)
			if !told || w == (impl.Gauss{}) {
				continue
			}
			if back, ok := impl.ExactOf(product, w); back != z || !ok {
				t.Fatal(z, w, back, ok)
			}
		}
	}
}

func TestExactQuotientsOfWrongNumbers(t *testing.T) {
	refusedWithWrong(t, impl.ExactOf)
	for _, z := range wrongNumbers() {
		for times, unit := range units {
			if got, ok := impl.ExactOf(timesUnit(z, times), unit); got != (impl.Gauss{}) || ok {
				t.Error(z, times, got, ok)
			}
			if got, ok := impl.ExactOf(z, timesUnit(z, times)); got != (impl.Gauss{}) || ok {
				t.Error(z, times, got, ok)
			}
		}
	}
}

// Promise 17.

func TestEvenNumbers(t *testing.T) {
	for _, c := range []struct {
		z    impl.Gauss
		want bool
	}{
		{impl.Gauss{}, true},
		{impl.Gauss{A: 1}, false},
		{impl.Gauss{B: -1}, false},
		{impl.Gauss{A: -2}, true},
		{impl.Gauss{B: 2}, true},
		{impl.Gauss{A: 1, B: 1}, true},
		{impl.Gauss{A: 1, B: -1}, true},
		{impl.Gauss{A: 3, B: 1}, true},
		{impl.Gauss{A: -3, B: -1}, true},
		{impl.Gauss{A: 2, B: 1}, false},
		{impl.Gauss{A: -2, B: -1}, false},
		{impl.Gauss{A: -1, B: 2}, false},
		{impl.Gauss{A: 1000, B: -1000}, true},
		{impl.Gauss{A: -1000, B: -999}, false},
		{impl.Gauss{A: 999, B: 999}, true},
		{impl.Gauss{A: 1002}, false},
		{impl.Gauss{A: 1001, B: 1}, false},
		{impl.Gauss{A: 1, B: -1001}, false},
	} {
		if got := impl.EvenOk(c.z); got != c.want {
			t.Error(c, got)
		}
	}
}

func TestEvenNumbersHaveEvenNorms(t *testing.T) {
	for _, z := range append(append(sampleNumbers(), onLines()...), smallNumbers(20)...) {
		want := normOf(z)%2 == 0
		if impl.EvenOk(z) != want || (impl.NormOf(z)%2 == 0) != want || impl.DividesOk(impl.Gauss{A: 1, B: 1}, z) != want {
			t.Error(z, want)
		}
	}
	wrong := append(wrongNumbers(), impl.Gauss{A: math.MinInt, B: math.MinInt}, impl.Gauss{A: math.MaxInt, B: 1})
	for _, z := range wrong {
		if impl.EvenOk(z) {
			t.Error(z)
		}
	}
}
