package tests

import (
	"testing"

	"loop.example/gaussnumbers/impl"
)

// told is what chapter 4 tells of two numbers.
type told struct {
	common, first, second impl.Gauss
	steps                 int
}

// toldOf finds it from the last step back to the first one, apart from the program, so that tests do not rest on it.
func toldOf(z, w impl.Gauss) told {
	if w == (impl.Gauss{}) {
		for times, unit := range units {
			if turned := timesUnit(z, times); inFirstQuarter(turned) {
				return told{common: turned, first: unit}
			}
		}
		return told{}
	}
	quotient := nearestTo(z, w)
	product := timesBoth(quotient, w)
	later := toldOf(w, impl.Gauss{A: z.A - product.A, B: z.B - product.B})
	// The rest is z less so many times w.
	less := timesBoth(quotient, later.second)
	second := impl.Gauss{A: later.first.A - less.A, B: later.first.B - less.B}
	return told{common: later.common, first: later.second, second: second, steps: later.steps + 1}
}

// nearestTo is the quotient of z by w, which is not 0, with each part as nearestOk asks for.
func nearestTo(z, w impl.Gauss) impl.Gauss {
	exact, size := timesBoth(z, impl.Gauss{A: w.A, B: -w.B}), normOf(w)
	near := func(n int) int {
		quotient := n/size - 1
		for !nearestOk(quotient, n, size) {
			quotient++
		}
		return quotient
	}
	return impl.Gauss{A: near(exact.A), B: near(exact.B)}
}

// divides: w is not 0, and each part of the exact quotient of z by it is whole.
func divides(w, z impl.Gauss) bool {
	exact, size := timesBoth(z, impl.Gauss{A: w.A, B: -w.B}), normOf(w)
	return size != 0 && exact.A%size == 0 && exact.B%size == 0
}

// divisorsUpTo are the numbers of the first quarter with parts up to most that divide both z and w.
func divisorsUpTo(most int, z, w impl.Gauss) []impl.Gauss {
	var list []impl.Gauss
	for a := 1; a <= most; a++ {
		for b := 0; b <= most; b++ {
			x := impl.Gauss{A: a, B: b}
			if divides(x, z) && divides(x, w) {
				list = append(list, x)
			}
		}
	}
	return list
}

// eachPair calls look for each two of the samples, and for each two small numbers.
func eachPair(look func(z, w impl.Gauss)) {
	for _, list := range [][]impl.Gauss{sampleNumbers(), smallNumbers(9)} {
		for _, z := range list {
			for _, w := range list {
				look(z, w)
			}
		}
	}
}

// Promise 18.

func TestGreatestCommonDivisors(t *testing.T) {
	for _, c := range []struct {
		z, w, want impl.Gauss
		ok         bool
	}{
		{impl.Gauss{A: 5, B: 5}, impl.Gauss{A: 3, B: 1}, impl.Gauss{A: 3, B: 1}, true},
		{impl.Gauss{A: 3, B: 1}, impl.Gauss{A: 5}, impl.Gauss{A: 1, B: 2}, true},
		{impl.Gauss{A: 7, B: -1}, impl.Gauss{A: 5}, impl.Gauss{A: 1, B: 2}, true},
		{impl.Gauss{A: 7, B: 1}, impl.Gauss{A: 5}, impl.Gauss{A: 2, B: 1}, true},
		{impl.Gauss{A: 12}, impl.Gauss{A: 18}, impl.Gauss{A: 6}, true},
		{impl.Gauss{A: 12}, impl.Gauss{B: -18}, impl.Gauss{A: 6}, true},
		{impl.Gauss{A: 2, B: 1}, impl.Gauss{A: 2, B: -1}, impl.Gauss{A: 1}, true},
		{impl.Gauss{A: 4, B: -2}, impl.Gauss{A: 4, B: 2}, impl.Gauss{A: 2}, true},
		{impl.Gauss{A: 3, B: 5}, impl.Gauss{A: 1, B: -3}, impl.Gauss{A: 1, B: 1}, true},
		// One divides the other one, or both each other.
		{impl.Gauss{A: 2}, impl.Gauss{A: -1, B: 1}, impl.Gauss{A: 1, B: 1}, true},
		{impl.Gauss{A: -2, B: 3}, impl.Gauss{A: 13}, impl.Gauss{A: 3, B: 2}, true},
		{impl.Gauss{A: -2, B: 3}, impl.Gauss{A: 3, B: 2}, impl.Gauss{A: 3, B: 2}, true},
		{impl.Gauss{A: -7}, impl.Gauss{B: 7}, impl.Gauss{A: 7}, true},
		{impl.Gauss{B: -1}, impl.Gauss{B: -1}, impl.Gauss{A: 1}, true},
		{impl.Gauss{B: 1}, impl.Gauss{A: 30, B: 12}, impl.Gauss{A: 1}, true},
		// 0 as one of both.
		{impl.Gauss{}, impl.Gauss{A: -2}, impl.Gauss{A: 2}, true},
		{impl.Gauss{A: -2}, impl.Gauss{}, impl.Gauss{A: 2}, true},
		{impl.Gauss{}, impl.Gauss{A: 4, B: -3}, impl.Gauss{A: 3, B: 4}, true},
		{impl.Gauss{B: 5}, impl.Gauss{}, impl.Gauss{A: 5}, true},
		{impl.Gauss{}, impl.Gauss{B: -1}, impl.Gauss{A: 1}, true},
		{impl.Gauss{A: -1000, B: -1000}, impl.Gauss{}, impl.Gauss{A: 1000, B: 1000}, true},
		{impl.Gauss{}, impl.Gauss{}, impl.Gauss{}, false},
		// Parts at the bounds.
		{impl.Gauss{A: 1000, B: -1000}, impl.Gauss{A: -1000, B: -1000}, impl.Gauss{A: 1000, B: 1000}, true},
		{impl.Gauss{A: 1000, B: 1000}, impl.Gauss{A: 1000}, impl.Gauss{A: 1000}, true},
		{impl.Gauss{A: 1000, B: 1000}, impl.Gauss{A: 999, B: 999}, impl.Gauss{A: 1, B: 1}, true},
		{impl.Gauss{A: -1000}, impl.Gauss{B: 999}, impl.Gauss{A: 1}, true},
		{impl.Gauss{A: 1001}, impl.Gauss{A: 7}, impl.Gauss{}, false},
		{impl.Gauss{A: 7}, impl.Gauss{B: -1001}, impl.Gauss{}, false},
		{impl.Gauss{A: 1001}, impl.Gauss{}, impl.Gauss{}, false},
	} {
		if got, ok := impl.CommonOf(c.z, c.w); got != c.want || ok != c.ok {
			t.Error(c, got, ok)
		}
	}
}

func TestCommonDivisorsDivideTheGreatest(t *testing.T) {
	list := smallNumbers(6)
	for _, z := range list {
		for _, w := range list {
			got, ok := impl.CommonOf(z, w)
			if z == (impl.Gauss{}) && w == (impl.Gauss{}) {
				if got != (impl.Gauss{}) || ok {
					t.Fatal(got, ok)
				}
				continue
			}
			if !ok || !inFirstQuarter(got) || !divides(got, z) || !divides(got, w) {
				t.Fatal(z, w, got, ok)
			}
			// A divisor of one that is not 0 has no part greater than 8, since its norm is at most 72.
			for _, x := range divisorsUpTo(8, z, w) {
				if !divides(x, got) || !impl.DividesOk(x, got) {
					t.Fatal(z, w, got, x)
				}
			}
		}
	}
}

func TestGreatestCommonDivisorsOfSamples(t *testing.T) {
	eachPair(func(z, w impl.Gauss) {
		want := toldOf(z, w).common
		got, ok := impl.CommonOf(z, w)
		if got != want || ok != (want != impl.Gauss{}) {
			t.Fatal(z, w, got, ok)
		}
		if exchanged, okToo := impl.CommonOf(w, z); exchanged != got || okToo != ok {
			t.Fatal(z, w, got, exchanged)
		}
		if !ok {
			return
		}
		if first, _, _ := impl.FirstOf(got); first != got || !impl.DividesOk(got, z) || !impl.DividesOk(got, w) {
			t.Fatal(z, w, got)
		}
	})
}

func TestGreatestCommonDivisorsOfAssociates(t *testing.T) {
	for _, list := range [][]impl.Gauss{fewNumbers(), smallNumbers(4)} {
		for _, z := range list {
			for _, w := range list {
				want, okWant := impl.CommonOf(z, w)
				for turn := range 16 {
					if got, ok := impl.CommonOf(timesUnit(z, turn/4), timesUnit(w, turn%4)); got != want || ok != okWant {
						t.Fatal(z, w, turn, got, ok)
					}
				}
			}
			want, okWant := impl.CommonOf(z, z)
			if first, _, _ := impl.FirstOf(z); want != first || okWant != (z != impl.Gauss{}) {
				t.Fatal(z, want, okWant)
			}
		}
	}
}

func TestGreatestCommonDivisorsOfWrongNumbers(t *testing.T) {
	refusedWithWrong(t, impl.CommonOf)
	for _, z := range wrongNumbers() {
		if got, ok := impl.CommonOf(z, z); got != (impl.Gauss{}) || ok {
			t.Error(z, got, ok)
		}
	}
}

// Promise 19.

func TestNumbersApart(t *testing.T) {
	for _, c := range []struct {
		z, w impl.Gauss
		want bool
	}{
		{impl.Gauss{A: 2, B: 1}, impl.Gauss{A: 2, B: -1}, true},
		{impl.Gauss{A: 5, B: 5}, impl.Gauss{A: 3, B: 1}, false},
		{impl.Gauss{A: 3}, impl.Gauss{A: 2}, true},
		{impl.Gauss{A: 3}, impl.Gauss{A: 5, B: 7}, true},
		{impl.Gauss{A: 2}, impl.Gauss{A: 3, B: 1}, false},
		{impl.Gauss{A: 2}, impl.Gauss{A: 2, B: 1}, true},
		{impl.Gauss{A: 5}, impl.Gauss{A: 2, B: 1}, false},
		{impl.Gauss{A: 2, B: 1}, impl.Gauss{A: -1, B: 2}, false},
		{impl.Gauss{B: 1}, impl.Gauss{A: -1}, true},
		{impl.Gauss{B: -1}, impl.Gauss{A: 1000, B: 1000}, true},
		{impl.Gauss{A: 1000, B: 1000}, impl.Gauss{A: -1}, true},
		{impl.Gauss{B: 1}, impl.Gauss{}, true},
		{impl.Gauss{}, impl.Gauss{A: -1}, true},
		{impl.Gauss{}, impl.Gauss{A: 2}, false},
		{impl.Gauss{A: 1, B: 1}, impl.Gauss{}, false},
		{impl.Gauss{}, impl.Gauss{}, false},
		{impl.Gauss{A: -1000}, impl.Gauss{A: 1000, B: 1000}, false},
		{impl.Gauss{A: -1000, B: 999}, impl.Gauss{B: 1000}, true},
		{impl.Gauss{A: 999}, impl.Gauss{A: 1000}, true},
		{impl.Gauss{A: 1001}, impl.Gauss{A: 1}, false},
		{impl.Gauss{B: 1}, impl.Gauss{A: -1001}, false},
	} {
		if got := impl.ApartOk(c.z, c.w); got != c.want {
			t.Error(c, got)
		}
		if got := impl.ApartOk(c.w, c.z); got != c.want {
			t.Error("exchanged", c, got)
		}
	}
}

func TestApartWithoutCommonDivisorsButUnits(t *testing.T) {
	list := smallNumbers(6)
	for _, z := range list {
		for _, w := range list {
			// Of both 0 all numbers are common divisors.
			want := len(divisorsUpTo(8, z, w)) == 1
			if got := impl.ApartOk(z, w); got != want {
				t.Fatal(z, w, got)
			}
		}
	}
	eachPair(func(z, w impl.Gauss) {
		common, ok := impl.CommonOf(z, w)
		if got := impl.ApartOk(z, w); got != (ok && common == impl.Gauss{A: 1}) {
			t.Fatal(z, w, got)
		}
	})
}

func TestApartFromTwoIsApartFromTheirProduct(t *testing.T) {
	for _, list := range [][]impl.Gauss{smallNumbers(4), fewNumbers()} {
		for _, z := range list {
			for _, w := range list {
				if !impl.ApartOk(z, w) {
					continue
				}
				for _, x := range list {
					product, ok := impl.TimesOf(w, x)
					if !ok {
						continue
					}
					if impl.ApartOk(z, x) != impl.ApartOk(z, product) {
						t.Fatal(z, w, x)
					}
					if impl.DividesOk(z, product) && !impl.DividesOk(z, x) {
						t.Fatal(z, w, x)
					}
				}
			}
		}
	}
}

func TestApartOfWrongNumbers(t *testing.T) {
	for _, z := range wrongNumbers() {
		for _, w := range append(append(fewNumbers(), units...), z) {
			if impl.ApartOk(z, w) || impl.ApartOk(w, z) {
				t.Error(z, w)
			}
		}
	}
}

// Promise 20.

func TestSteps(t *testing.T) {
	for _, c := range []struct {
		z, w impl.Gauss
		want int
	}{
		{impl.Gauss{A: 5, B: 5}, impl.Gauss{A: 3, B: 1}, 1},
		{impl.Gauss{A: 3, B: 1}, impl.Gauss{A: 5, B: 5}, 2},
		{impl.Gauss{A: 2, B: 1}, impl.Gauss{A: 2, B: -1}, 2},
		{impl.Gauss{A: 1}, impl.Gauss{A: 2}, 2},
		{impl.Gauss{A: 8, B: 1}, impl.Gauss{A: 27, B: -23}, 4},
		{impl.Gauss{A: 27, B: -23}, impl.Gauss{A: 8, B: 1}, 3},
		{impl.Gauss{A: -252, B: 991}, impl.Gauss{A: 999, B: 975}, 12},
		// A unit, an associate and 0 are divided at once.
		{impl.Gauss{A: -1000, B: 999}, impl.Gauss{B: 1}, 1},
		{impl.Gauss{B: 1}, impl.Gauss{A: -1000, B: 999}, 2},
		{impl.Gauss{A: -2, B: 3}, impl.Gauss{A: 3, B: 2}, 1},
		{impl.Gauss{A: 1000, B: 1000}, impl.Gauss{A: -1000, B: 1000}, 1},
		{impl.Gauss{}, impl.Gauss{A: 4, B: -3}, 1},
		{impl.Gauss{A: 4, B: -3}, impl.Gauss{}, 0},
		{impl.Gauss{A: -1000, B: 1000}, impl.Gauss{}, 0},
		{impl.Gauss{}, impl.Gauss{}, 0},
		{impl.Gauss{A: 1001}, impl.Gauss{}, -1},
		{impl.Gauss{}, impl.Gauss{B: 1001}, -1},
		{impl.Gauss{A: -1001, B: 5}, impl.Gauss{A: 1}, -1},
	} {
		if got := impl.StepsOf(c.z, c.w); got != c.want {
			t.Error(c, got)
		}
	}
}

func TestStepsAreFew(t *testing.T) {
	eachPair(func(z, w impl.Gauss) {
		got := impl.StepsOf(z, w)
		if got != toldOf(z, w).steps || (got == 1) != impl.DividesOk(w, z) {
			t.Fatal(z, w, got)
		}
		if w == (impl.Gauss{}) {
			if got != 0 {
				t.Fatal(z, got)
			}
			return
		}
		if 1<<got > 2*impl.NormOf(w) {
			t.Fatal(z, w, got)
		}
	})
}

func TestStepsOfWrongNumbers(t *testing.T) {
	for _, z := range wrongNumbers() {
		for _, w := range append(append(fewNumbers(), units...), z) {
			if got := impl.StepsOf(z, w); got != -1 {
				t.Error(z, w, got)
			}
			if got := impl.StepsOf(w, z); got != -1 {
				t.Error(w, z, got)
			}
		}
	}
}

// Promise 21.

func TestFactorsForTwo(t *testing.T) {
	for _, c := range []struct {
		z, w, first, second impl.Gauss
		ok                  bool
	}{
		{impl.Gauss{A: 12}, impl.Gauss{A: 7}, impl.Gauss{A: 3}, impl.Gauss{A: -5}, true},
		{impl.Gauss{A: 7}, impl.Gauss{A: 12}, impl.Gauss{A: -5}, impl.Gauss{A: 3}, true},
		{impl.Gauss{A: 3, B: 1}, impl.Gauss{A: 5}, impl.Gauss{B: -1}, impl.Gauss{B: 1}, true},
		{impl.Gauss{A: 2, B: 1}, impl.Gauss{A: 2, B: -1}, impl.Gauss{A: -1}, impl.Gauss{A: 1, B: 1}, true},
		// The second one divides the first one: nothing but a unit times it.
		{impl.Gauss{A: 5, B: 5}, impl.Gauss{A: 3, B: 1}, impl.Gauss{}, impl.Gauss{A: 1}, true},
		{impl.Gauss{A: 13}, impl.Gauss{A: -2, B: 3}, impl.Gauss{}, impl.Gauss{B: -1}, true},
		{impl.Gauss{A: -2, B: 3}, impl.Gauss{A: 13}, impl.Gauss{B: -1}, impl.Gauss{}, true},
		{impl.Gauss{A: 3, B: 2}, impl.Gauss{A: -2, B: 3}, impl.Gauss{}, impl.Gauss{B: -1}, true},
		{impl.Gauss{A: 30, B: 12}, impl.Gauss{B: 1}, impl.Gauss{}, impl.Gauss{B: -1}, true},
		{impl.Gauss{B: 1}, impl.Gauss{A: 30, B: 12}, impl.Gauss{B: -1}, impl.Gauss{}, true},
		// 0 as one of both.
		{impl.Gauss{}, impl.Gauss{A: -2}, impl.Gauss{}, impl.Gauss{A: -1}, true},
		{impl.Gauss{A: -2}, impl.Gauss{}, impl.Gauss{A: -1}, impl.Gauss{}, true},
		{impl.Gauss{}, impl.Gauss{A: 4, B: -3}, impl.Gauss{}, impl.Gauss{B: 1}, true},
		{impl.Gauss{A: 4, B: -3}, impl.Gauss{}, impl.Gauss{B: 1}, impl.Gauss{}, true},
		{impl.Gauss{A: 4, B: 3}, impl.Gauss{}, impl.Gauss{A: 1}, impl.Gauss{}, true},
		{impl.Gauss{}, impl.Gauss{B: 1000}, impl.Gauss{}, impl.Gauss{B: -1}, true},
		{impl.Gauss{}, impl.Gauss{}, impl.Gauss{}, impl.Gauss{}, false},
		// Parts at the bounds.
		{impl.Gauss{A: 1000, B: 1000}, impl.Gauss{A: -1000, B: 1000}, impl.Gauss{}, impl.Gauss{B: -1}, true},
		{impl.Gauss{A: 1000}, impl.Gauss{A: 999}, impl.Gauss{A: 1}, impl.Gauss{A: -1}, true},
		{impl.Gauss{A: 999}, impl.Gauss{A: -1000}, impl.Gauss{A: -1}, impl.Gauss{A: -1}, true},
		{impl.Gauss{A: 1001}, impl.Gauss{A: 1}, impl.Gauss{}, impl.Gauss{}, false},
		{impl.Gauss{A: 1}, impl.Gauss{B: 1001}, impl.Gauss{}, impl.Gauss{}, false},
		{impl.Gauss{A: 4, B: -3}, impl.Gauss{A: 1000, B: 1001}, impl.Gauss{}, impl.Gauss{}, false},
	} {
		if first, second, ok := impl.FactorsFor(c.z, c.w); first != c.first || second != c.second || ok != c.ok {
			t.Error(c, first, second, ok)
		}
	}
}

func TestSumsOfProductsAreTheGreatestCommonDivisor(t *testing.T) {
	eachPair(func(z, w impl.Gauss) {
		want := toldOf(z, w)
		first, second, ok := impl.FactorsFor(z, w)
		if first != want.first || second != want.second {
			t.Fatal(z, w, first, second)
		}
		common, okCommon := impl.CommonOf(z, w)
		ofZ, ofW := timesBoth(first, z), timesBoth(second, w)
		if ok != okCommon || ofZ.A+ofW.A != common.A || ofZ.B+ofW.B != common.B {
			t.Fatal(z, w, first, second, ok)
		}
		toldZ, okZ := impl.TimesOf(first, z)
		toldW, okW := impl.TimesOf(second, w)
		sum, okSum := impl.PlusOf(toldZ, toldW)
		if okZ && okW && (sum != common || !okSum) {
			t.Fatal(z, w, first, second, sum, okSum)
		}
	})
}

// Nothing bounds the factors: they are told as they are found, even with parts above MaxPart.
func TestFactorsOutOfBounds(t *testing.T) {
	for _, c := range []struct {
		z, w, first, second impl.Gauss
	}{
		{impl.Gauss{A: 997, B: 1000}, impl.Gauss{A: 697, B: -62}, impl.Gauss{A: 536, B: 449}, impl.Gauss{A: 3, B: -1411}},
		{impl.Gauss{A: 697, B: -62}, impl.Gauss{A: 997, B: 1000}, impl.Gauss{A: 3, B: -1411}, impl.Gauss{A: 536, B: 449}},
		{impl.Gauss{A: 980, B: 991}, impl.Gauss{A: 940, B: 794}, impl.Gauss{A: 52, B: -1079}, impl.Gauss{A: -168, B: 1212}},
	} {
		first, second, ok := impl.FactorsFor(c.z, c.w)
		if first != c.first || second != c.second || !ok {
			t.Error(c, first, second, ok)
		}
		if ofZ, ofW := timesBoth(first, c.z), timesBoth(second, c.w); ofZ.A+ofW.A != 1 || ofZ.B+ofW.B != 0 {
			t.Error(c, first, second)
		}
	}
}

func TestFactorsForWrongNumbers(t *testing.T) {
	refused := func(z, w impl.Gauss) {
		t.Helper()
		if first, second, ok := impl.FactorsFor(z, w); first != (impl.Gauss{}) || second != (impl.Gauss{}) || ok {
			t.Error(z, w, first, second, ok)
		}
	}
	for _, z := range wrongNumbers() {
		for _, w := range append(append(fewNumbers(), units...), z) {
			refused(z, w)
			refused(w, z)
		}
	}
}

// Promise 22.

func TestLeastCommonMultiples(t *testing.T) {
	for _, c := range []struct {
		z, w, want impl.Gauss
		ok         bool
	}{
		{impl.Gauss{A: 2}, impl.Gauss{A: 1, B: 1}, impl.Gauss{A: 2}, true},
		{impl.Gauss{A: 4}, impl.Gauss{A: 6}, impl.Gauss{A: 12}, true},
		{impl.Gauss{A: -4}, impl.Gauss{B: 6}, impl.Gauss{A: 12}, true},
		{impl.Gauss{A: 2, B: 1}, impl.Gauss{A: 2, B: -1}, impl.Gauss{A: 5}, true},
		{impl.Gauss{A: 5}, impl.Gauss{A: 3, B: 1}, impl.Gauss{A: 5, B: 5}, true},
		{impl.Gauss{A: 3}, impl.Gauss{A: 2, B: -1}, impl.Gauss{A: 3, B: 6}, true},
		{impl.Gauss{A: -2, B: 3}, impl.Gauss{A: 3, B: 2}, impl.Gauss{A: 3, B: 2}, true},
		{impl.Gauss{B: 1}, impl.Gauss{A: 1, B: -4}, impl.Gauss{A: 4, B: 1}, true},
		{impl.Gauss{B: 1}, impl.Gauss{A: -1}, impl.Gauss{A: 1}, true},
		{impl.Gauss{}, impl.Gauss{A: 2}, impl.Gauss{}, false},
		{impl.Gauss{A: 2}, impl.Gauss{}, impl.Gauss{}, false},
		{impl.Gauss{}, impl.Gauss{}, impl.Gauss{}, false},
		// Just in bounds, though the product of both is not.
		{impl.Gauss{A: 8}, impl.Gauss{B: 125}, impl.Gauss{A: 1000}, true},
		{impl.Gauss{A: 500}, impl.Gauss{A: 200}, impl.Gauss{A: 1000}, true},
		{impl.Gauss{A: 20}, impl.Gauss{A: 1, B: 50}, impl.Gauss{A: 20, B: 1000}, true},
		{impl.Gauss{A: 20}, impl.Gauss{A: 50, B: -1}, impl.Gauss{A: 20, B: 1000}, true},
		{impl.Gauss{A: 1000}, impl.Gauss{A: 1, B: 1}, impl.Gauss{A: 1000}, true},
		{impl.Gauss{A: 1000, B: 1000}, impl.Gauss{A: 2, B: 1}, impl.Gauss{A: 1000, B: 1000}, true},
		{impl.Gauss{A: 1000}, impl.Gauss{A: 1000, B: 1000}, impl.Gauss{A: 1000, B: 1000}, true},
		{impl.Gauss{A: -1000, B: 1000}, impl.Gauss{A: 1000, B: 1000}, impl.Gauss{A: 1000, B: 1000}, true},
		// Just out of bounds, with either part.
		{impl.Gauss{A: 77}, impl.Gauss{A: 13}, impl.Gauss{}, false},
		{impl.Gauss{A: 13}, impl.Gauss{A: 1, B: 77}, impl.Gauss{}, false},
		{impl.Gauss{A: 13}, impl.Gauss{A: 77, B: 1}, impl.Gauss{}, false},
		{impl.Gauss{A: 1000}, impl.Gauss{A: 3}, impl.Gauss{}, false},
		{impl.Gauss{A: 1000, B: 1000}, impl.Gauss{A: 3}, impl.Gauss{}, false},
		{impl.Gauss{A: 1000, B: 999}, impl.Gauss{A: 999, B: -1000}, impl.Gauss{A: 1000, B: 999}, true},
		{impl.Gauss{A: 1000, B: 999}, impl.Gauss{A: 999, B: 1000}, impl.Gauss{}, false},
		{impl.Gauss{A: 1001}, impl.Gauss{A: 1}, impl.Gauss{}, false},
		{impl.Gauss{A: 7}, impl.Gauss{A: 1001}, impl.Gauss{}, false},
	} {
		if got, ok := impl.LeastOf(c.z, c.w); got != c.want || ok != c.ok {
			t.Error(c, got, ok)
		}
		if got, ok := impl.LeastOf(c.w, c.z); got != c.want || ok != c.ok {
			t.Error("exchanged", c, got, ok)
		}
	}
}

func TestMultiplesOfBothAreMultiplesOfTheLeast(t *testing.T) {
	list := smallNumbers(4)
	for _, z := range list {
		for _, w := range list {
			if z == (impl.Gauss{}) || w == (impl.Gauss{}) {
				continue
			}
			got, ok := impl.LeastOf(z, w)
			if !ok || !divides(z, got) || !divides(w, got) {
				t.Fatal(z, w, got, ok)
			}
			for _, x := range smallNumbers(12) {
				if divides(z, x) && divides(w, x) && !impl.DividesOk(got, x) {
					t.Fatal(z, w, got, x)
				}
			}
		}
	}
}

func TestLeastCommonMultiplesOfSamples(t *testing.T) {
	none := 0
	eachPair(func(z, w impl.Gauss) {
		if z == (impl.Gauss{}) || w == (impl.Gauss{}) {
			if got, ok := impl.LeastOf(z, w); got != (impl.Gauss{}) || ok {
				t.Fatal(z, w, got, ok)
			}
			return
		}
		common := toldOf(z, w).common
		whole := timesBoth(timesBoth(z, w), impl.Gauss{A: common.A, B: -common.B})
		size := normOf(common)
		want := impl.Gauss{A: whole.A / size, B: whole.B / size}
		for !inFirstQuarter(want) {
			want = timesUnit(want, 1)
		}
		got, ok := impl.LeastOf(z, w)
		if !inBounds(want.A, want.B) {
			none++
			if got != (impl.Gauss{}) || ok {
				t.Fatal(z, w, got, ok)
			}
			return
		}
		if got != want || !ok || !impl.DividesOk(z, got) || !impl.DividesOk(w, got) {
			t.Fatal(z, w, got, ok)
		}
		if impl.NormOf(got)*impl.NormOf(common) != impl.NormOf(z)*impl.NormOf(w) {
			t.Fatal(z, w, got)
		}
		if product, told := impl.TimesOf(z, w); told && !impl.DividesOk(got, product) {
			t.Fatal(z, w, got)
		}
	})
	if none == 0 {
		t.Error("no sample has a multiple that is none")
	}
}

func TestLeastCommonMultiplesOfWrongNumbers(t *testing.T) {
	refusedWithWrong(t, impl.LeastOf)
	for _, z := range wrongNumbers() {
		if got, ok := impl.LeastOf(z, z); got != (impl.Gauss{}) || ok {
			t.Error(z, got, ok)
		}
	}
}
