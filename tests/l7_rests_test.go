package tests

import (
	"slices"
	"testing"

	"loop.example/gaussnumbers/impl"
)

// fewModules are all numbers of a norm in 1..100: units, 1+i, whole numbers and those of the greatest norm among them.
func fewModules() []impl.Gauss {
	return slices.DeleteFunc(smallNumbers(10), func(m impl.Gauss) bool {
		return normOf(m) < 1 || normOf(m) > 100
	})
}

// greatModules have a norm above 100: some just one more, others as great as may be.
var greatModules = []impl.Gauss{{A: 10, B: 1}, {A: -1, B: 10}, {A: -10, B: -1}, {A: 1, B: -10}, {A: 10, B: 2}, {B: 11}, {A: -8, B: 8}, {A: 31, B: -32}, {A: 100}, {A: 500, B: -500}, {B: -999}, {A: 1000}, {B: -1000}, {A: -1000, B: 1}, {A: 999, B: -1000}, {A: 1000, B: 1000}}

// wrapModules are out of bounds, with a norm that wraps around to one from 0 to 100.
var wrapModules = []impl.Gauss{{A: 1 << 32, B: 1}, {A: 1 << 32, B: 10}, {A: 3, B: 1 << 32}, {A: 1 << 62, B: 6}}

// inSquare: of the exact quotient of z by m, which is not 0, each part is less than a half, and at least a half below 0.
func inSquare(z, m impl.Gauss) bool {
	exact, size := timesBoth(z, impl.Gauss{A: m.A, B: -m.B}), normOf(m)
	half := func(n int) bool {
		return -size <= 2*n && 2*n < size
	}
	return half(exact.A) && half(exact.B)
}

// apartBy is the difference of both, which may be out of bounds.
func apartBy(z, w impl.Gauss) impl.Gauss {
	return impl.Gauss{A: z.A - w.A, B: z.B - w.B}
}

// restFits: the rest lies in the square of m and differs from z by a multiple of m. There is just one such answer.
func restFits(rest, z, m impl.Gauss) bool {
	return inSquare(rest, m) && divides(m, apartBy(z, rest))
}

// byFirstParts compares by first parts, and of equal ones by second parts.
func byFirstParts(z, w impl.Gauss) int {
	if z.A != w.A {
		return z.A - w.A
	}
	return z.B - w.B
}

// joining is AddedBy or MultipliedBy.
type joining func(z, w, m impl.Gauss) (impl.Gauss, bool)

// Promise 32.

func TestRests(t *testing.T) {
	for _, c := range []struct {
		z, m, want impl.Gauss
	}{
		{impl.Gauss{A: 7}, impl.Gauss{A: 2, B: 1}, impl.Gauss{B: -1}},
		{impl.Gauss{A: 27, B: -23}, impl.Gauss{A: 8, B: 1}, impl.Gauss{B: -2}},
		{impl.Gauss{A: 5, B: 3}, impl.Gauss{A: 3}, impl.Gauss{A: -1}},
		{impl.Gauss{A: 4, B: -5}, impl.Gauss{A: 3}, impl.Gauss{A: 1, B: 1}},
		{impl.Gauss{}, impl.Gauss{A: -2, B: 7}, impl.Gauss{}},
		{impl.Gauss{A: -2, B: 7}, impl.Gauss{A: -2, B: 7}, impl.Gauss{}},
		{impl.Gauss{A: -2, B: 7}, impl.Gauss{A: 7, B: 2}, impl.Gauss{}},
		// By units, and by 1+i and its associates.
		{impl.Gauss{A: 4, B: -9}, impl.Gauss{A: 1}, impl.Gauss{}},
		{impl.Gauss{A: -1000, B: 999}, impl.Gauss{B: 1}, impl.Gauss{}},
		{impl.Gauss{A: 3, B: 3}, impl.Gauss{A: -1}, impl.Gauss{}},
		{impl.Gauss{A: 1}, impl.Gauss{B: -1}, impl.Gauss{}},
		{impl.Gauss{A: 3, B: 1}, impl.Gauss{A: 1, B: 1}, impl.Gauss{}},
		{impl.Gauss{A: 3}, impl.Gauss{A: 1, B: 1}, impl.Gauss{B: -1}},
		{impl.Gauss{A: 3}, impl.Gauss{A: 1, B: -1}, impl.Gauss{A: -1}},
		{impl.Gauss{A: 3}, impl.Gauss{A: -1, B: 1}, impl.Gauss{A: 1}},
		{impl.Gauss{A: 3}, impl.Gauss{A: -1, B: -1}, impl.Gauss{B: 1}},
		// Numbers that are their own rest, and the next ones that are not.
		{impl.Gauss{A: 4, B: 4}, impl.Gauss{A: 9}, impl.Gauss{A: 4, B: 4}},
		{impl.Gauss{A: -4, B: -4}, impl.Gauss{A: 9}, impl.Gauss{A: -4, B: -4}},
		{impl.Gauss{A: 5, B: 4}, impl.Gauss{A: 9}, impl.Gauss{A: -4, B: 4}},
		{impl.Gauss{A: 4, B: -5}, impl.Gauss{A: 9}, impl.Gauss{A: 4, B: 4}},
		{impl.Gauss{A: 1}, impl.Gauss{A: 2, B: 1}, impl.Gauss{A: 1}},
		{impl.Gauss{A: 1, B: 1}, impl.Gauss{A: 2, B: 1}, impl.Gauss{A: -1}},
		{impl.Gauss{A: 499, B: -499}, impl.Gauss{A: 999}, impl.Gauss{A: 499, B: -499}},
		{impl.Gauss{A: 500, B: -500}, impl.Gauss{A: 999}, impl.Gauss{A: -499, B: 499}},
		// Far from it, and by moduli of a norm above 100.
		{impl.Gauss{A: 1000, B: 1000}, impl.Gauss{A: 3}, impl.Gauss{A: 1, B: 1}},
		{impl.Gauss{A: -1000, B: 1000}, impl.Gauss{A: 7}, impl.Gauss{A: 1, B: -1}},
		{impl.Gauss{A: 1000}, impl.Gauss{A: 10, B: 1}, impl.Gauss{B: 1}},
		{impl.Gauss{A: 1000}, impl.Gauss{A: 11}, impl.Gauss{A: -1}},
		{impl.Gauss{A: 1000, B: -1000}, impl.Gauss{A: 1000, B: 1000}, impl.Gauss{}},
		{impl.Gauss{A: 1000}, impl.Gauss{A: 999}, impl.Gauss{A: 1}},
		{impl.Gauss{A: 5, B: -7}, impl.Gauss{A: 1000, B: 1000}, impl.Gauss{A: 5, B: -7}},
	} {
		if got, ok := impl.RestOf(c.z, c.m); got != c.want || !ok {
			t.Error(c, got, ok)
		}
	}
}

func TestRestsOnTheBorder(t *testing.T) {
	for _, c := range []struct {
		m    impl.Gauss
		want impl.Gauss
		same []impl.Gauss
	}{
		// Corners: of the four just one is its own rest.
		{impl.Gauss{A: 1, B: 1}, impl.Gauss{B: -1}, []impl.Gauss{{B: 1}, {A: 1}, {A: -1}}},
		{impl.Gauss{A: 2}, impl.Gauss{A: -1, B: -1}, []impl.Gauss{{A: 1, B: 1}, {A: 1, B: -1}, {A: -1, B: 1}}},
		{impl.Gauss{B: 2}, impl.Gauss{A: 1, B: -1}, []impl.Gauss{{A: 1, B: 1}, {A: -1, B: -1}, {A: -1, B: 1}}},
		{impl.Gauss{A: -2}, impl.Gauss{A: 1, B: 1}, []impl.Gauss{{A: 1, B: -1}, {A: -1, B: -1}, {A: -1, B: 1}}},
		{impl.Gauss{B: -2}, impl.Gauss{A: -1, B: 1}, []impl.Gauss{{A: 1, B: 1}, {A: -1, B: -1}, {A: 1, B: -1}}},
		{impl.Gauss{A: 3, B: 1}, impl.Gauss{A: -1, B: -2}, []impl.Gauss{{A: 1, B: 2}, {A: 2, B: -1}, {A: -2, B: 1}}},
		{impl.Gauss{A: 10}, impl.Gauss{A: -5, B: -5}, []impl.Gauss{{A: 5, B: 5}, {A: 5, B: -5}, {A: -5, B: 5}}},
		{impl.Gauss{A: 6, B: 8}, impl.Gauss{A: 1, B: -7}, []impl.Gauss{{A: -1, B: 7}, {A: 7, B: 1}, {A: -7, B: -1}}},
		{impl.Gauss{A: 1000}, impl.Gauss{A: -500, B: -500}, []impl.Gauss{{A: 500, B: 500}, {A: 500, B: -500}, {A: -500, B: 500}}},
		// Sides: of two across just one is its own rest.
		{impl.Gauss{A: 2}, impl.Gauss{A: -1}, []impl.Gauss{{A: 1}, {A: 3}, {A: -3}, {A: 999}}},
		{impl.Gauss{A: 2}, impl.Gauss{B: -1}, []impl.Gauss{{B: 1}, {B: 3}, {B: -999}, {A: 1000, B: 1}}},
		{impl.Gauss{B: 2}, impl.Gauss{A: 1}, []impl.Gauss{{A: -1}, {A: 3}, {A: -999, B: 1000}}},
		{impl.Gauss{A: -2}, impl.Gauss{A: 1}, []impl.Gauss{{A: -1}, {A: -3}}},
		{impl.Gauss{A: 4, B: 2}, impl.Gauss{A: -2, B: -1}, []impl.Gauss{{A: 2, B: 1}, {A: 6, B: 3}}},
		{impl.Gauss{A: 4, B: 2}, impl.Gauss{A: 1, B: -2}, []impl.Gauss{{A: -1, B: 2}, {A: -3, B: 6}}},
		{impl.Gauss{A: 10}, impl.Gauss{A: -5, B: 4}, []impl.Gauss{{A: 5, B: 4}, {A: 5, B: -6}, {A: 995, B: 994}}},
		{impl.Gauss{A: 10}, impl.Gauss{A: 4, B: -5}, []impl.Gauss{{A: 4, B: 5}, {A: -6, B: 5}}},
		{impl.Gauss{A: -6, B: 8}, impl.Gauss{A: 3, B: -4}, []impl.Gauss{{A: -3, B: 4}, {A: 9, B: -12}}},
	} {
		for _, z := range append(c.same, c.want) {
			if got, ok := impl.RestOf(z, c.m); got != c.want || !ok {
				t.Error(c, z, got, ok)
			}
		}
	}
}

// ownRest looks at the rest of one number by a modulus, both valid, the modulus not 0.
func ownRest(t *testing.T, z, m impl.Gauss) {
	t.Helper()
	rest, ok := impl.RestOf(z, m)
	if !ok || !restFits(rest, z, m) || (rest == z) != inSquare(z, m) {
		t.Fatal(z, m, rest, ok)
	}
	if again, ok := impl.RestOf(rest, m); again != rest || !ok || !impl.SameOk(rest, z, m) {
		t.Fatal(z, m, rest, again, ok)
	}
	if (rest == impl.Gauss{}) != impl.DividesOk(m, z) {
		t.Fatal(z, m, rest)
	}
	if _, want, ok := impl.DividedBy(z, m); rest != want || !ok {
		t.Fatal(z, m, rest, want)
	}
}

func TestRestsAreTheirOwnRests(t *testing.T) {
	for _, m := range slices.Concat(fewModules(), greatModules) {
		for _, z := range slices.Concat(sampleNumbers(), smallNumbers(12)) {
			ownRest(t, z, m)
		}
	}
	for _, z := range sampleNumbers() {
		for _, m := range sampleNumbers() {
			if m != (impl.Gauss{}) {
				ownRest(t, z, m)
			}
		}
	}
}

func TestRestsOfWrongNumbers(t *testing.T) {
	refusedWithWrong(t, impl.RestOf)
	for _, z := range append(sampleNumbers(), wrongNumbers()...) {
		if got, ok := impl.RestOf(z, impl.Gauss{}); got != (impl.Gauss{}) || ok {
			t.Error(z, got, ok)
		}
	}
	for _, z := range wrongNumbers() {
		for _, m := range fewModules() {
			if got, ok := impl.RestOf(z, m); got != (impl.Gauss{}) || ok {
				t.Fatal(z, m, got, ok)
			}
		}
	}
}

// Promise 33.

func TestSameRests(t *testing.T) {
	for _, c := range []struct {
		z, w, m impl.Gauss
		want    bool
	}{
		{impl.Gauss{A: 7}, impl.Gauss{A: 2}, impl.Gauss{A: 2, B: 1}, true},
		{impl.Gauss{A: 7}, impl.Gauss{A: 1}, impl.Gauss{A: 2, B: 1}, false},
		{impl.Gauss{A: 7}, impl.Gauss{A: 7}, impl.Gauss{A: 2, B: 1}, true},
		{impl.Gauss{}, impl.Gauss{}, impl.Gauss{B: 1}, true},
		{impl.Gauss{}, impl.Gauss{}, impl.Gauss{}, false},
		{impl.Gauss{A: 3, B: 4}, impl.Gauss{A: 3, B: 4}, impl.Gauss{}, false},
		// By units all are the same, by 1+i all even ones and all others.
		{impl.Gauss{A: 5, B: -2}, impl.Gauss{A: -3, B: 8}, impl.Gauss{A: 1}, true},
		{impl.Gauss{A: 5, B: -2}, impl.Gauss{A: 4, B: -2}, impl.Gauss{B: -1}, true},
		{impl.Gauss{A: 5, B: -2}, impl.Gauss{B: 1}, impl.Gauss{A: 1, B: 1}, true},
		{impl.Gauss{A: 5, B: -2}, impl.Gauss{A: 1, B: 1}, impl.Gauss{A: 1, B: 1}, false},
		{impl.Gauss{A: 4, B: -2}, impl.Gauss{A: 1, B: -1}, impl.Gauss{A: -1, B: 1}, true},
		// By whole numbers, and across the square of rests.
		{impl.Gauss{A: 4, B: -5}, impl.Gauss{A: 1, B: 1}, impl.Gauss{A: 3}, true},
		{impl.Gauss{A: 4, B: -5}, impl.Gauss{A: 1, B: 1}, impl.Gauss{B: 3}, true},
		{impl.Gauss{A: 4, B: -5}, impl.Gauss{A: 1, B: -1}, impl.Gauss{A: 3}, false},
		{impl.Gauss{A: 4, B: -5}, impl.Gauss{A: 5, B: -5}, impl.Gauss{A: 3}, false},
		{impl.Gauss{A: 1, B: 1}, impl.Gauss{A: -1, B: -1}, impl.Gauss{A: 2}, true},
		{impl.Gauss{A: 5, B: 5}, impl.Gauss{A: -5, B: 5}, impl.Gauss{A: 10}, true},
		{impl.Gauss{A: 5, B: 5}, impl.Gauss{A: -5, B: 4}, impl.Gauss{A: 10}, false},
		{impl.Gauss{A: -1, B: 7}, impl.Gauss{A: 7, B: 1}, impl.Gauss{A: 6, B: 8}, true},
		{impl.Gauss{A: -1, B: 7}, impl.Gauss{A: 7, B: 1}, impl.Gauss{A: 8, B: -6}, true},
		{impl.Gauss{A: -1, B: 7}, impl.Gauss{A: 7, B: 1}, impl.Gauss{A: 8, B: 6}, false},
		{impl.Gauss{A: -1, B: 7}, impl.Gauss{A: 1, B: -7}, impl.Gauss{A: 6, B: 8}, true},
		// Differences out of bounds.
		{impl.Gauss{A: 1000}, impl.Gauss{A: -1000}, impl.Gauss{A: 1000}, true},
		{impl.Gauss{A: 1000}, impl.Gauss{A: -1000}, impl.Gauss{A: 3}, false},
		{impl.Gauss{A: 1000}, impl.Gauss{A: -998}, impl.Gauss{A: 3}, true},
		{impl.Gauss{A: 1000, B: 1000}, impl.Gauss{A: -1000, B: -1000}, impl.Gauss{A: 1000, B: 1000}, true},
		{impl.Gauss{A: 1000, B: 1000}, impl.Gauss{A: -1000, B: -1000}, impl.Gauss{A: 2, B: 1}, true},
		{impl.Gauss{A: 1000, B: 1000}, impl.Gauss{A: -1000, B: -999}, impl.Gauss{A: 2, B: 1}, false},
		{impl.Gauss{B: 999}, impl.Gauss{B: -1000}, impl.Gauss{A: 1000, B: 999}, false},
		{impl.Gauss{A: -1000, B: 1000}, impl.Gauss{A: 1000, B: -1000}, impl.Gauss{A: 1000, B: -1000}, true},
		// Moduli of a norm above 100.
		{impl.Gauss{A: 12, B: 1}, impl.Gauss{A: 2}, impl.Gauss{A: 10, B: 1}, true},
		{impl.Gauss{A: 12}, impl.Gauss{A: 1}, impl.Gauss{A: 11}, true},
		{impl.Gauss{A: 12}, impl.Gauss{A: 2}, impl.Gauss{A: 11}, false},
		{impl.Gauss{A: 500}, impl.Gauss{A: -500}, impl.Gauss{B: -1000}, true},
		{impl.Gauss{A: 500}, impl.Gauss{A: -499}, impl.Gauss{B: -1000}, false},
	} {
		if got := impl.SameOk(c.z, c.w, c.m); got != c.want {
			t.Error(c, got)
		}
	}
}

// sameFits looks at one modulus and two numbers, all valid, and reports whether both differ by a number in bounds.
func sameFits(t *testing.T, z, w, m impl.Gauss) bool {
	t.Helper()
	got := impl.SameOk(z, w, m)
	if got != divides(m, apartBy(z, w)) || got != impl.SameOk(w, z, m) {
		t.Fatal(z, w, m, got)
	}
	difference, told := impl.PlusOf(z, impl.MinusOf(w))
	if told && got != impl.DividesOk(m, difference) {
		t.Fatal(z, w, m, got)
	}
	first, ok := impl.RestOf(z, m)
	second, okToo := impl.RestOf(w, m)
	if got != (ok && okToo && first == second) {
		t.Fatal(z, w, m, got, first, second)
	}
	return told
}

func TestSameRestsDifferByMultiples(t *testing.T) {
	none := 0
	for _, m := range slices.Concat(fewModules(), greatModules, []impl.Gauss{{}}) {
		for _, z := range fewNumbers() {
			if impl.SameOk(z, z, m) != (m != impl.Gauss{}) {
				t.Fatal(z, m)
			}
			for _, w := range fewNumbers() {
				if !sameFits(t, z, w, m) && impl.SameOk(z, w, m) {
					none++
				}
			}
		}
	}
	if none == 0 {
		t.Error("no difference out of bounds is a multiple")
	}
	for _, m := range []impl.Gauss{{A: 1, B: 1}, {A: 2}, {A: 2, B: -1}, {B: 3}, {A: -6, B: 8}, {A: 10, B: 1}} {
		for _, z := range smallNumbers(7) {
			for _, w := range smallNumbers(7) {
				sameFits(t, z, w, m)
			}
		}
	}
}

func TestMultiplesOfAModulusLeaveTheSameRest(t *testing.T) {
	for _, m := range append(fewModules(), greatModules...) {
		for _, z := range []impl.Gauss{{}, {A: 3, B: -4}, {A: -7}, {A: 1000, B: -1000}} {
			rest, _ := impl.RestOf(z, m)
			for _, x := range smallNumbers(3) {
				product := timesBoth(x, m)
				w := impl.Gauss{A: z.A + product.A, B: z.B + product.B}
				told := inBounds(w.A, w.B)
				if impl.SameOk(z, w, m) != told || impl.SameOk(w, z, m) != told {
					t.Fatal(z, w, m)
				}
				if got, ok := impl.RestOf(w, m); ok != told || told && got != rest {
					t.Fatal(z, w, m, got, ok)
				}
			}
		}
	}
}

func TestSameRestsOfWrongNumbers(t *testing.T) {
	some := []impl.Gauss{{}, {A: 1}, {B: -1}, {A: 1, B: 1}, {A: 3}, {A: -1000, B: 1000}}
	for _, z := range wrongNumbers() {
		for _, w := range some {
			for _, m := range some {
				if impl.SameOk(z, w, m) || impl.SameOk(w, z, m) || impl.SameOk(w, m, z) || impl.SameOk(z, z, m) || impl.SameOk(w, w, z) || impl.SameOk(z, m, z) {
					t.Fatal(z, w, m)
				}
			}
		}
		if impl.SameOk(z, z, z) {
			t.Error(z)
		}
	}
	for _, z := range fewNumbers() {
		for _, w := range fewNumbers() {
			if impl.SameOk(z, w, impl.Gauss{}) {
				t.Error(z, w)
			}
		}
	}
	if impl.SameOk(impl.Gauss{A: 1001}, impl.Gauss{A: 1}, impl.Gauss{A: 1}) || impl.SameOk(impl.Gauss{A: 1}, impl.Gauss{B: -1001}, impl.Gauss{A: 1}) || impl.SameOk(impl.Gauss{A: 1001}, impl.Gauss{}, impl.Gauss{A: 1001}) {
		t.Error("part out of bounds")
	}
}

// Promise 34.

func TestModules(t *testing.T) {
	for _, c := range []struct {
		m    impl.Gauss
		want bool
	}{
		{impl.Gauss{}, false},
		{impl.Gauss{A: 1}, true},
		{impl.Gauss{B: 1}, true},
		{impl.Gauss{A: -1}, true},
		{impl.Gauss{B: -1}, true},
		{impl.Gauss{A: 1, B: 1}, true},
		{impl.Gauss{A: 2, B: 1}, true},
		{impl.Gauss{A: -7, B: 7}, true},
		{impl.Gauss{A: 9, B: 4}, true},
		{impl.Gauss{A: 9, B: -5}, false},
		// The greatest norm, and one more.
		{impl.Gauss{A: 10}, true},
		{impl.Gauss{B: -10}, true},
		{impl.Gauss{A: 6, B: 8}, true},
		{impl.Gauss{A: -8, B: 6}, true},
		{impl.Gauss{A: 10, B: 1}, false},
		{impl.Gauss{A: -1, B: -10}, false},
		{impl.Gauss{A: 11}, false},
		{impl.Gauss{A: 8, B: 8}, false},
		{impl.Gauss{A: 1000, B: -1000}, false},
		{impl.Gauss{A: 1001}, false},
		{impl.Gauss{A: 1, B: -1001}, false},
		// Out of bounds, where a norm that wraps around is from 0 to 100.
		{impl.Gauss{A: 1 << 32, B: 1}, false},
		{impl.Gauss{A: -3, B: 1 << 32}, false},
		{impl.Gauss{A: 1 << 32, B: 10}, false},
		{impl.Gauss{A: 1 << 32, B: -1 << 32}, false},
		{impl.Gauss{A: 1 << 62, B: 6}, false},
	} {
		if got := impl.ModulusOk(c.m); got != c.want {
			t.Error(c, got)
		}
	}
}

func TestModulesHaveANormUpToTheGreatest(t *testing.T) {
	if impl.MaxModulus != 100 {
		t.Error(impl.MaxModulus)
	}
	for _, m := range slices.Concat(smallNumbers(20), sampleNumbers(), onLines()) {
		want := normOf(m) >= 1 && normOf(m) <= 100
		if got := impl.ModulusOk(m); got != want {
			t.Error(m, got)
		}
		for times := range units {
			if got := impl.ModulusOk(impl.TurnedBy(m, times)); got != want {
				t.Error(m, times, got)
			}
		}
	}
	for _, m := range wrongNumbers() {
		if impl.ModulusOk(m) {
			t.Error(m)
		}
	}
}

// Promise 35.

func TestAllRests(t *testing.T) {
	for _, c := range []struct {
		m    impl.Gauss
		want []impl.Gauss
	}{
		{impl.Gauss{A: 1}, []impl.Gauss{{}}},
		{impl.Gauss{B: 1}, []impl.Gauss{{}}},
		{impl.Gauss{A: -1}, []impl.Gauss{{}}},
		{impl.Gauss{B: -1}, []impl.Gauss{{}}},
		{impl.Gauss{A: 1, B: 1}, []impl.Gauss{{B: -1}, {}}},
		{impl.Gauss{A: 1, B: -1}, []impl.Gauss{{A: -1}, {}}},
		{impl.Gauss{A: -1, B: 1}, []impl.Gauss{{}, {A: 1}}},
		{impl.Gauss{A: -1, B: -1}, []impl.Gauss{{}, {B: 1}}},
		{impl.Gauss{A: 2}, []impl.Gauss{{A: -1, B: -1}, {A: -1}, {B: -1}, {}}},
		{impl.Gauss{B: 2}, []impl.Gauss{{B: -1}, {}, {A: 1, B: -1}, {A: 1}}},
		{impl.Gauss{A: -2}, []impl.Gauss{{}, {B: 1}, {A: 1}, {A: 1, B: 1}}},
		{impl.Gauss{B: -2}, []impl.Gauss{{A: -1}, {A: -1, B: 1}, {}, {B: 1}}},
		{impl.Gauss{A: 2, B: 1}, []impl.Gauss{{A: -1}, {B: -1}, {}, {B: 1}, {A: 1}}},
		{impl.Gauss{A: 1, B: -2}, []impl.Gauss{{A: -1}, {B: -1}, {}, {B: 1}, {A: 1}}},
		{impl.Gauss{A: 3}, pairsOf([]int{-1, 0, 1}, []int{-1, 0, 1})},
		{impl.Gauss{B: -9}, pairsOf([]int{-4, -3, -2, -1, 0, 1, 2, 3, 4}, []int{-4, -3, -2, -1, 0, 1, 2, 3, 4})},
		{impl.Gauss{A: 10}, pairsOf([]int{-5, -4, -3, -2, -1, 0, 1, 2, 3, 4}, []int{-5, -4, -3, -2, -1, 0, 1, 2, 3, 4})},
		{impl.Gauss{B: 10}, pairsOf([]int{-4, -3, -2, -1, 0, 1, 2, 3, 4, 5}, []int{-5, -4, -3, -2, -1, 0, 1, 2, 3, 4})},
		{impl.Gauss{}, nil},
		{impl.Gauss{A: 10, B: 1}, nil},
		{impl.Gauss{A: 11}, nil},
		{impl.Gauss{A: 1000, B: 1000}, nil},
		{impl.Gauss{A: 1001}, nil},
	} {
		if got := impl.RestsOf(c.m); !slices.Equal(got, c.want) {
			t.Error(c, got)
		}
	}
}

func TestThereAreAsManyRestsAsTheNorm(t *testing.T) {
	for _, m := range fewModules() {
		list := impl.RestsOf(m)
		want := slices.DeleteFunc(smallNumbers(20), func(z impl.Gauss) bool {
			return !inSquare(z, m)
		})
		slices.SortFunc(want, byFirstParts)
		if !slices.Equal(list, want) || len(list) != impl.NormOf(m) {
			t.Fatal(m, list)
		}
		for n, z := range list {
			if own, ok := impl.RestOf(z, m); own != z || !ok || 2*impl.NormOf(z) > impl.NormOf(m) {
				t.Fatal(m, z, own, ok)
			}
			for _, w := range list[:n] {
				if impl.SameOk(z, w, m) || byFirstParts(w, z) >= 0 {
					t.Fatal(m, z, w)
				}
			}
		}
	}
}

func TestEachRestIsAmongAllRests(t *testing.T) {
	for _, m := range fewModules() {
		list := impl.RestsOf(m)
		for _, z := range sampleNumbers() {
			rest, _ := impl.RestOf(z, m)
			if !slices.Contains(list, rest) {
				t.Fatal(m, z, rest)
			}
		}
	}
}

func TestAllRestsAreNewEachTime(t *testing.T) {
	m := impl.Gauss{A: 4, B: 2}
	first := impl.RestsOf(m)
	want := slices.Clone(first)
	for n := range first {
		first[n] = impl.Gauss{A: 77}
	}
	_ = append(first, impl.Gauss{A: 78})
	if got := impl.RestsOf(m); !slices.Equal(got, want) || len(got) != 20 {
		t.Error(got)
	}
}

func TestAllRestsOfWrongModules(t *testing.T) {
	wrong := slices.Concat(wrongNumbers(), greatModules, wrapModules, []impl.Gauss{{}})
	for _, m := range wrong {
		if got := impl.RestsOf(m); len(got) != 0 {
			t.Error(m, got)
		}
	}
}

// Promises 36 and 37.

// joinFits looks at what two valid numbers leave by a modulus, where exact is their sum or product without bounds.
func joinFits(t *testing.T, join joining, z, w, m, exact impl.Gauss) {
	t.Helper()
	got, ok := join(z, w, m)
	if !ok || !restFits(got, exact, m) {
		t.Fatal(z, w, m, got, ok)
	}
	if other, ok := join(w, z, m); other != got || !ok {
		t.Fatal(z, w, m, got, other, ok)
	}
	rest, _ := impl.RestOf(z, m)
	if other, ok := join(rest, w, m); other != got || !ok {
		t.Fatal(z, w, m, got, other, ok)
	}
}

// joinsFit looks at each modulus with samples, and with all of its rests, where tell is exact within bounds.
func joinsFit(t *testing.T, join joining, tell func(z, w impl.Gauss) (impl.Gauss, bool), exact func(z, w impl.Gauss) impl.Gauss) {
	t.Helper()
	none := 0
	for _, m := range fewModules() {
		for _, z := range fewNumbers() {
			for _, w := range fewNumbers() {
				joinFits(t, join, z, w, m, exact(z, w))
				told, ok := tell(z, w)
				if !ok {
					none++
					continue
				}
				got, _ := join(z, w, m)
				if want, ok := impl.RestOf(told, m); got != want || !ok {
					t.Fatal(z, w, m, got, want)
				}
			}
		}
		list := impl.RestsOf(m)
		for _, z := range list {
			for _, w := range list {
				joinFits(t, join, z, w, m, exact(z, w))
			}
		}
	}
	if none == 0 {
		t.Error("none is out of bounds")
	}
}

// refusedBy: wrong numbers in each of the arguments, 0 as modulus, and moduli of a norm above 100.
func refusedBy(t *testing.T, join joining) {
	t.Helper()
	refused := func(z, w, m impl.Gauss) {
		t.Helper()
		if got, ok := join(z, w, m); got != (impl.Gauss{}) || ok {
			t.Fatal(z, w, m, got, ok)
		}
	}
	some := []impl.Gauss{{}, {A: 1}, {B: -1}, {A: 1, B: 1}, {A: 3}, {A: 10}, {A: -1000, B: 1000}}
	for _, z := range wrongNumbers() {
		for _, w := range some {
			for _, m := range some {
				refused(z, w, m)
				refused(w, z, m)
				refused(w, m, z)
			}
			refused(z, z, w)
			refused(w, z, z)
			refused(z, w, z)
		}
		refused(z, z, z)
	}
	for _, m := range slices.Concat(greatModules, wrapModules, []impl.Gauss{{}}) {
		for _, z := range some {
			for _, w := range some {
				refused(z, w, m)
			}
		}
	}
	refused(impl.Gauss{A: 1001}, impl.Gauss{A: -1}, impl.Gauss{A: 2})
	refused(impl.Gauss{A: -1}, impl.Gauss{A: 1001}, impl.Gauss{A: 2})
	refused(impl.Gauss{}, impl.Gauss{B: -1001}, impl.Gauss{A: 1})
}

// joinCase is a case of AddedBy or of MultipliedBy.
type joinCase struct {
	z, w, m, want impl.Gauss
	ok            bool
}

func joinCases(t *testing.T, join joining, list []joinCase) {
	t.Helper()
	for _, c := range list {
		if got, ok := join(c.z, c.w, c.m); got != c.want || ok != c.ok {
			t.Error(c, got, ok)
		}
	}
}

// Promise 36.

func TestSumsOfRests(t *testing.T) {
	joinCases(t, impl.AddedBy, []joinCase{
		{impl.Gauss{A: 1}, impl.Gauss{A: 1}, impl.Gauss{A: 2, B: 1}, impl.Gauss{B: -1}, true},
		{impl.Gauss{A: 1}, impl.Gauss{A: -1}, impl.Gauss{A: 2, B: 1}, impl.Gauss{}, true},
		{impl.Gauss{A: 1}, impl.Gauss{B: 1}, impl.Gauss{A: 2, B: 1}, impl.Gauss{A: -1}, true},
		{impl.Gauss{A: 7, B: 2}, impl.Gauss{}, impl.Gauss{A: 3}, impl.Gauss{A: 1, B: -1}, true},
		{impl.Gauss{A: 1, B: 1}, impl.Gauss{A: 1, B: -1}, impl.Gauss{A: 3}, impl.Gauss{A: -1}, true},
		// By units, 1+i, and on the border.
		{impl.Gauss{A: 7, B: 2}, impl.Gauss{A: 5, B: -8}, impl.Gauss{B: -1}, impl.Gauss{}, true},
		{impl.Gauss{A: 1}, impl.Gauss{A: 2}, impl.Gauss{A: 1, B: 1}, impl.Gauss{B: -1}, true},
		{impl.Gauss{A: 1}, impl.Gauss{B: 1}, impl.Gauss{A: 1, B: 1}, impl.Gauss{}, true},
		{impl.Gauss{A: 1}, impl.Gauss{B: 1}, impl.Gauss{A: 2}, impl.Gauss{A: -1, B: -1}, true},
		{impl.Gauss{A: 2, B: 2}, impl.Gauss{A: 3, B: 3}, impl.Gauss{A: 10}, impl.Gauss{A: -5, B: -5}, true},
		{impl.Gauss{A: 2, B: 2}, impl.Gauss{A: 3, B: 3}, impl.Gauss{A: -10}, impl.Gauss{A: 5, B: 5}, true},
		{impl.Gauss{A: 3, B: 4}, impl.Gauss{A: -4, B: 3}, impl.Gauss{A: 6, B: 8}, impl.Gauss{A: 1, B: -7}, true},
		// Parts at the bounds, and sums out of them.
		{impl.Gauss{A: 1000}, impl.Gauss{A: 1000}, impl.Gauss{A: 3}, impl.Gauss{A: -1}, true},
		{impl.Gauss{A: 1000, B: -1000}, impl.Gauss{A: 1000, B: -1000}, impl.Gauss{A: 7}, impl.Gauss{A: -2, B: 2}, true},
		{impl.Gauss{A: -1000, B: -1000}, impl.Gauss{A: -1, B: -1}, impl.Gauss{A: 10}, impl.Gauss{A: -1, B: -1}, true},
		{impl.Gauss{B: 1000}, impl.Gauss{B: 1}, impl.Gauss{A: 2}, impl.Gauss{B: -1}, true},
		{impl.Gauss{A: 1000, B: 1000}, impl.Gauss{A: -1000, B: -1000}, impl.Gauss{A: 7}, impl.Gauss{}, true},
		// No modulus.
		{impl.Gauss{A: 1}, impl.Gauss{A: 1}, impl.Gauss{}, impl.Gauss{}, false},
		{impl.Gauss{A: 1}, impl.Gauss{A: 1}, impl.Gauss{A: 10, B: 1}, impl.Gauss{}, false},
		{impl.Gauss{A: 1}, impl.Gauss{A: 1}, impl.Gauss{A: 1000}, impl.Gauss{}, false},
		{impl.Gauss{A: 1}, impl.Gauss{A: 1}, impl.Gauss{A: 1001}, impl.Gauss{}, false},
	})
}

func TestSumsOfRestsAreRestsOfSums(t *testing.T) {
	joinsFit(t, impl.AddedBy, impl.PlusOf, func(z, w impl.Gauss) impl.Gauss {
		return impl.Gauss{A: z.A + w.A, B: z.B + w.B}
	})
}

func TestSumsOfRestsOfWrongNumbers(t *testing.T) {
	refusedBy(t, impl.AddedBy)
}

// Promise 37.

func TestProductsOfRests(t *testing.T) {
	joinCases(t, impl.MultipliedBy, []joinCase{
		{impl.Gauss{B: 1}, impl.Gauss{B: 1}, impl.Gauss{A: 2, B: 1}, impl.Gauss{A: -1}, true},
		{impl.Gauss{A: 2}, impl.Gauss{A: 2}, impl.Gauss{A: 2, B: 1}, impl.Gauss{A: -1}, true},
		{impl.Gauss{A: 2, B: 1}, impl.Gauss{A: 5}, impl.Gauss{A: 2, B: 1}, impl.Gauss{}, true},
		{impl.Gauss{A: 1, B: 1}, impl.Gauss{A: 1, B: 1}, impl.Gauss{A: 3}, impl.Gauss{B: -1}, true},
		{impl.Gauss{A: 7, B: 2}, impl.Gauss{}, impl.Gauss{A: 3}, impl.Gauss{}, true},
		{impl.Gauss{A: 7, B: 2}, impl.Gauss{A: 1}, impl.Gauss{A: 3}, impl.Gauss{A: 1, B: -1}, true},
		// By units, 1+i, on the border, and where neither is 0 but the product is.
		{impl.Gauss{A: 7, B: 2}, impl.Gauss{A: 5, B: -8}, impl.Gauss{A: -1}, impl.Gauss{}, true},
		{impl.Gauss{A: 3}, impl.Gauss{A: 2, B: 1}, impl.Gauss{A: 1, B: 1}, impl.Gauss{B: -1}, true},
		{impl.Gauss{A: 3}, impl.Gauss{A: 1, B: 1}, impl.Gauss{A: 1, B: 1}, impl.Gauss{}, true},
		{impl.Gauss{A: 3}, impl.Gauss{A: 1, B: 1}, impl.Gauss{A: 2}, impl.Gauss{A: -1, B: -1}, true},
		{impl.Gauss{A: 1, B: 1}, impl.Gauss{A: 1, B: 1}, impl.Gauss{A: 2}, impl.Gauss{}, true},
		{impl.Gauss{A: 5}, impl.Gauss{A: 1, B: 1}, impl.Gauss{A: 10}, impl.Gauss{A: -5, B: -5}, true},
		{impl.Gauss{A: 5}, impl.Gauss{A: 1, B: 1}, impl.Gauss{B: -10}, impl.Gauss{A: -5, B: 5}, true},
		{impl.Gauss{A: -5, B: -5}, impl.Gauss{A: -5, B: -5}, impl.Gauss{A: 10}, impl.Gauss{}, true},
		// Parts at the bounds, and products out of them.
		{impl.Gauss{A: 1000}, impl.Gauss{A: 1000}, impl.Gauss{A: 3}, impl.Gauss{A: 1}, true},
		{impl.Gauss{A: 1000}, impl.Gauss{A: 1000}, impl.Gauss{A: 7}, impl.Gauss{A: 1}, true},
		{impl.Gauss{A: 1000, B: 1000}, impl.Gauss{A: 1000, B: 1000}, impl.Gauss{A: 7}, impl.Gauss{B: 2}, true},
		{impl.Gauss{A: -1000, B: 1000}, impl.Gauss{A: 1000, B: 1000}, impl.Gauss{A: 9}, impl.Gauss{A: -2}, true},
		{impl.Gauss{A: 100, B: 1}, impl.Gauss{A: 11}, impl.Gauss{A: 10}, impl.Gauss{B: 1}, true},
		// No modulus.
		{impl.Gauss{A: 1}, impl.Gauss{A: 1}, impl.Gauss{}, impl.Gauss{}, false},
		{impl.Gauss{A: 1}, impl.Gauss{A: 1}, impl.Gauss{A: 10, B: 1}, impl.Gauss{}, false},
		{impl.Gauss{A: 1}, impl.Gauss{A: 1}, impl.Gauss{A: 1000}, impl.Gauss{}, false},
		{impl.Gauss{A: 1}, impl.Gauss{A: 1}, impl.Gauss{A: 1001}, impl.Gauss{}, false},
	})
}

func TestProductsOfRestsAreRestsOfProducts(t *testing.T) {
	joinsFit(t, impl.MultipliedBy, impl.TimesOf, timesBoth)
}

func TestProductsOfRestsOfWrongNumbers(t *testing.T) {
	refusedBy(t, impl.MultipliedBy)
}
