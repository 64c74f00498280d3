package tests

import (
	"slices"
	"testing"

	"loop.example/gaussnumbers/impl"
)

// two are two modules, or what is none of them.
type two struct {
	m, n impl.Gauss
}

func (p two) both() impl.Gauss {
	return timesBoth(p.m, p.n)
}

// goodPairs are all modules apart whose product has a norm up to 100, told apart from PairOk.
func goodPairs() []two {
	var list []two
	for _, m := range fewModules() {
		for _, n := range fewModules() {
			if normOf(m)*normOf(n) <= 100 && apartTold(m, n) {
				list = append(list, two{m, n})
			}
		}
	}
	return list
}

// somePairs are few for tests that take long: units as one and as both, primes, whole numbers, and products of the norm 100.
var somePairs = []two{
	{impl.Gauss{A: 1}, impl.Gauss{B: -1}}, {impl.Gauss{A: 1}, impl.Gauss{A: 10}}, {impl.Gauss{A: -6, B: 8}, impl.Gauss{B: 1}}, {impl.Gauss{A: -1}, impl.Gauss{A: 1, B: 1}},
	{impl.Gauss{A: 2, B: 1}, impl.Gauss{A: 2, B: -1}}, {impl.Gauss{A: 3}, impl.Gauss{A: 1, B: 1}}, {impl.Gauss{B: 2}, impl.Gauss{B: -3}}, {impl.Gauss{A: 3, B: -2}, impl.Gauss{A: 1, B: 2}},
	{impl.Gauss{A: 2}, impl.Gauss{A: 3, B: 4}}, {impl.Gauss{A: 5}, impl.Gauss{B: 2}}, {impl.Gauss{A: 4, B: 2}, impl.Gauss{A: 2, B: -1}}, {impl.Gauss{A: 1, B: 2}, impl.Gauss{A: -2, B: 4}},
}

// wrongPairs are no pairs: not apart, of a product of a norm above 100, with 0, or with one that is no modulus.
func wrongPairs() []two {
	list := []two{
		{impl.Gauss{A: 2}, impl.Gauss{A: 1, B: 1}}, {impl.Gauss{A: 2, B: 1}, impl.Gauss{A: 4, B: 2}}, {impl.Gauss{A: 3, B: 1}, impl.Gauss{A: 1, B: 3}}, {impl.Gauss{A: 2, B: 1}, impl.Gauss{A: -1, B: 2}}, {impl.Gauss{A: 3, B: 4}, impl.Gauss{A: 2, B: 1}},
		// Apart, of a norm of 104, 106, 117, and far above.
		{impl.Gauss{A: 2, B: 2}, impl.Gauss{A: 3, B: 2}}, {impl.Gauss{A: 1, B: 1}, impl.Gauss{A: 7, B: 2}}, {impl.Gauss{A: 3}, impl.Gauss{A: 3, B: 2}}, {impl.Gauss{A: 10}, impl.Gauss{A: 3}}, {impl.Gauss{A: 9, B: 4}, impl.Gauss{A: 9, B: -4}}, {impl.Gauss{A: 10}, impl.Gauss{A: 9}},
		{impl.Gauss{}, impl.Gauss{}},
	}
	some := []impl.Gauss{{A: 1}, {B: -1}, {A: 1, B: 1}, {A: 2, B: 1}, {A: 3}, {A: 10}}
	for _, m := range fewModules() {
		if normOf(m) > 1 {
			list = append(list, two{m, m}, two{m, timesUnit(m, 1)})
		}
		list = append(list, two{m, impl.Gauss{}})
	}
	for _, m := range slices.Concat(greatModules, wrapModules, wrongNumbers()) {
		list = append(list, two{m, m}, two{m, impl.Gauss{}})
		for _, n := range some {
			list = append(list, two{m, n})
		}
	}
	for _, p := range slices.Clone(list) {
		list = append(list, two{p.n, p.m})
	}
	return list
}

// joinTold is, for two rests, the one rest by the product that leaves both, found among all of these.
func joinTold(p two) map[two]impl.Gauss {
	told := map[two]impl.Gauss{}
	for _, x := range restsTold(p.both()) {
		told[two{restTold(x, p.m), restTold(x, p.n)}] = x
	}
	return told
}

// Promise 42.

func TestPairs(t *testing.T) {
	for _, c := range []struct {
		m, n impl.Gauss
		want bool
	}{
		{impl.Gauss{A: 2, B: 1}, impl.Gauss{A: 2, B: -1}, true},
		{impl.Gauss{A: 2, B: 1}, impl.Gauss{A: 1, B: 2}, true},
		{impl.Gauss{A: 3}, impl.Gauss{A: 1, B: 1}, true},
		{impl.Gauss{A: 3}, impl.Gauss{B: 2}, true},
		{impl.Gauss{A: 7}, impl.Gauss{A: 1, B: -1}, true},
		{impl.Gauss{A: 3, B: 2}, impl.Gauss{A: 2, B: 1}, true},
		// Units as one of both, and as both.
		{impl.Gauss{A: 1}, impl.Gauss{A: 1, B: 1}, true},
		{impl.Gauss{A: 10}, impl.Gauss{A: 1}, true},
		{impl.Gauss{B: -1}, impl.Gauss{A: -6, B: 8}, true},
		{impl.Gauss{A: 1}, impl.Gauss{A: 1}, true},
		{impl.Gauss{B: 1}, impl.Gauss{B: 1}, true},
		{impl.Gauss{A: -1}, impl.Gauss{B: -1}, true},
		// A product of just the greatest norm, and some of a greater one.
		{impl.Gauss{A: 2}, impl.Gauss{A: 3, B: 4}, true},
		{impl.Gauss{A: -2}, impl.Gauss{A: 5}, true},
		{impl.Gauss{A: 4, B: 2}, impl.Gauss{A: 2, B: -1}, true},
		{impl.Gauss{A: 2, B: 2}, impl.Gauss{A: 3, B: 2}, false},
		{impl.Gauss{A: 1, B: 1}, impl.Gauss{A: 7, B: 2}, false},
		{impl.Gauss{A: 3}, impl.Gauss{A: 3, B: 2}, false},
		{impl.Gauss{A: 10}, impl.Gauss{A: 9, B: 4}, false},
		{impl.Gauss{A: 1}, impl.Gauss{A: 10, B: 1}, false},
		{impl.Gauss{A: 11}, impl.Gauss{B: 1}, false},
		// With a common divisor, and the same one twice.
		{impl.Gauss{A: 2, B: 1}, impl.Gauss{A: 2, B: 1}, false},
		{impl.Gauss{A: 2, B: 1}, impl.Gauss{A: -1, B: 2}, false},
		{impl.Gauss{A: 1, B: 1}, impl.Gauss{A: 1, B: -1}, false},
		{impl.Gauss{A: 2}, impl.Gauss{A: 1, B: 1}, false},
		{impl.Gauss{A: 3}, impl.Gauss{A: 3}, false},
		{impl.Gauss{A: 5}, impl.Gauss{A: 1, B: 2}, false},
		{impl.Gauss{A: 3, B: 1}, impl.Gauss{A: 3, B: -1}, false},
		// 0, and parts out of bounds.
		{impl.Gauss{}, impl.Gauss{A: 1}, false},
		{impl.Gauss{A: 2, B: 1}, impl.Gauss{}, false},
		{impl.Gauss{}, impl.Gauss{}, false},
		{impl.Gauss{A: 1001}, impl.Gauss{A: 1}, false},
		{impl.Gauss{A: 1}, impl.Gauss{A: 1, B: -1001}, false},
		{impl.Gauss{A: 1 << 32, B: 1}, impl.Gauss{A: 1}, false},
	} {
		if got := impl.PairOk(c.m, c.n); got != c.want {
			t.Error(c, got)
		}
	}
}

func TestPairsGoBothWays(t *testing.T) {
	good := map[two]bool{}
	for _, p := range goodPairs() {
		good[p] = true
	}
	great := 0
	for _, m := range fewModules() {
		for _, n := range fewModules() {
			got := impl.PairOk(m, n)
			if got != good[two{m, n}] || got != impl.PairOk(n, m) {
				t.Fatal(m, n, got)
			}
			if got && normOf(m) > 1 && normOf(n) > 1 && normOf(m)*normOf(n) == 100 {
				great++
			}
		}
		for _, unit := range units {
			if !impl.PairOk(m, unit) || !impl.PairOk(unit, m) {
				t.Error(m, unit)
			}
		}
	}
	if great == 0 {
		t.Error("no product has the norm 100")
	}
}

func TestPairsOfWrongModules(t *testing.T) {
	for _, p := range wrongPairs() {
		if impl.PairOk(p.m, p.n) {
			t.Error(p)
		}
	}
	for _, m := range append(sampleNumbers(), wrongNumbers()...) {
		for _, unit := range units {
			want := inBounds(m.A, m.B) && normOf(m) >= 1 && normOf(m) <= 100
			if impl.PairOk(m, unit) != want || impl.PairOk(unit, m) != want {
				t.Error(m, unit, want)
			}
		}
	}
}

// Promise 43.

func TestJoinedRests(t *testing.T) {
	for _, c := range []struct {
		z, w, m, n, want impl.Gauss
	}{
		{impl.Gauss{A: 1}, impl.Gauss{}, impl.Gauss{A: 2, B: 1}, impl.Gauss{A: 2, B: -1}, impl.Gauss{A: -2, B: 1}},
		{impl.Gauss{}, impl.Gauss{A: 1}, impl.Gauss{A: 2, B: 1}, impl.Gauss{A: 2, B: -1}, impl.Gauss{A: -2, B: -1}},
		{impl.Gauss{A: 1}, impl.Gauss{A: 1}, impl.Gauss{A: 2, B: 1}, impl.Gauss{A: 2, B: -1}, impl.Gauss{A: 1}},
		{impl.Gauss{}, impl.Gauss{}, impl.Gauss{A: 2, B: 1}, impl.Gauss{A: 2, B: -1}, impl.Gauss{}},
		{impl.Gauss{A: 1}, impl.Gauss{A: -1}, impl.Gauss{A: 2, B: 1}, impl.Gauss{A: 2, B: -1}, impl.Gauss{B: 2}},
		{impl.Gauss{A: -1}, impl.Gauss{A: 1}, impl.Gauss{A: 2, B: -1}, impl.Gauss{A: 2, B: 1}, impl.Gauss{B: 2}},
		{impl.Gauss{A: 7}, impl.Gauss{A: 7}, impl.Gauss{A: 2, B: 1}, impl.Gauss{A: 2, B: -1}, impl.Gauss{A: 2}},
		{impl.Gauss{A: 2}, impl.Gauss{A: 1, B: 1}, impl.Gauss{A: 3}, impl.Gauss{A: 1, B: 1}, impl.Gauss{A: 2}},
		{impl.Gauss{A: 1, B: 1}, impl.Gauss{A: 2}, impl.Gauss{A: 1, B: 1}, impl.Gauss{A: 3}, impl.Gauss{A: 2}},
		{impl.Gauss{B: 1}, impl.Gauss{}, impl.Gauss{A: 3}, impl.Gauss{A: 2, B: 1}, impl.Gauss{A: -3, B: 1}},
		// Products of just the greatest norm.
		{impl.Gauss{A: 1}, impl.Gauss{}, impl.Gauss{A: 2}, impl.Gauss{A: 3, B: 4}, impl.Gauss{A: -3, B: -4}},
		{impl.Gauss{}, impl.Gauss{A: 1}, impl.Gauss{A: 2}, impl.Gauss{A: 3, B: 4}, impl.Gauss{A: -2, B: -4}},
		{impl.Gauss{A: 1}, impl.Gauss{A: 1}, impl.Gauss{A: 2}, impl.Gauss{A: 3, B: 4}, impl.Gauss{A: 1}},
		{impl.Gauss{A: 1, B: 1}, impl.Gauss{A: 2, B: -3}, impl.Gauss{A: 2}, impl.Gauss{A: 3, B: 4}, impl.Gauss{A: 5, B: 1}},
		{impl.Gauss{A: 1}, impl.Gauss{}, impl.Gauss{A: 4, B: 2}, impl.Gauss{A: 2, B: -1}, impl.Gauss{A: 3, B: -4}},
		// With the modules exchanged, and the numbers not, it is another one.
		{impl.Gauss{B: 1}, impl.Gauss{A: -1}, impl.Gauss{A: 4}, impl.Gauss{A: 2, B: 1}, impl.Gauss{A: -4, B: 1}},
		{impl.Gauss{B: 1}, impl.Gauss{A: -1}, impl.Gauss{A: 2, B: 1}, impl.Gauss{A: 4}, impl.Gauss{A: 3}},
		// Units as one of both: the other rest alone counts, in the square of the product.
		{impl.Gauss{A: 7, B: 2}, impl.Gauss{A: 5, B: -8}, impl.Gauss{A: 1}, impl.Gauss{A: 10}, impl.Gauss{A: -5, B: 2}},
		{impl.Gauss{A: 7, B: 2}, impl.Gauss{A: 5, B: -8}, impl.Gauss{A: 10}, impl.Gauss{A: 1}, impl.Gauss{A: -3, B: 2}},
		{impl.Gauss{A: 5, B: 5}, impl.Gauss{}, impl.Gauss{A: 10}, impl.Gauss{A: 1}, impl.Gauss{A: -5, B: -5}},
		{impl.Gauss{A: 5, B: 5}, impl.Gauss{}, impl.Gauss{A: 10}, impl.Gauss{A: -1}, impl.Gauss{A: 5, B: 5}},
		{impl.Gauss{A: 5, B: 5}, impl.Gauss{A: 3, B: 1}, impl.Gauss{A: 10}, impl.Gauss{B: 1}, impl.Gauss{A: 5, B: -5}},
		{impl.Gauss{A: 5, B: 5}, impl.Gauss{A: 3, B: 1}, impl.Gauss{A: 10}, impl.Gauss{B: -1}, impl.Gauss{A: -5, B: 5}},
		{impl.Gauss{A: 4, B: 1}, impl.Gauss{A: 3}, impl.Gauss{B: 1}, impl.Gauss{A: 1, B: 1}, impl.Gauss{A: 1}},
		{impl.Gauss{A: 4, B: 1}, impl.Gauss{A: 3}, impl.Gauss{A: -1}, impl.Gauss{A: 1, B: 1}, impl.Gauss{B: 1}},
		{impl.Gauss{A: 1}, impl.Gauss{}, impl.Gauss{A: 1}, impl.Gauss{A: 3}, impl.Gauss{}},
		{impl.Gauss{A: 1}, impl.Gauss{}, impl.Gauss{A: 3}, impl.Gauss{A: 1}, impl.Gauss{A: 1}},
		// Units as both: 0 is the only rest.
		{impl.Gauss{A: 1}, impl.Gauss{}, impl.Gauss{A: 1}, impl.Gauss{A: 1}, impl.Gauss{}},
		{impl.Gauss{A: 1000, B: -1000}, impl.Gauss{A: 7}, impl.Gauss{B: 1}, impl.Gauss{B: -1}, impl.Gauss{}},
		// Far from their rests.
		{impl.Gauss{A: 1000, B: 1000}, impl.Gauss{A: -1000, B: 1000}, impl.Gauss{A: 3}, impl.Gauss{A: 2, B: 1}, impl.Gauss{A: 1, B: -2}},
		{impl.Gauss{A: 999}, impl.Gauss{B: -1000}, impl.Gauss{A: 2, B: 1}, impl.Gauss{A: 2, B: -1}, impl.Gauss{A: 2, B: -1}},
		{impl.Gauss{A: -1000, B: -1000}, impl.Gauss{A: 1000, B: 1000}, impl.Gauss{A: 1, B: 1}, impl.Gauss{A: 7}, impl.Gauss{A: -1, B: -1}},
	} {
		if got, ok := impl.JoinedOf(c.z, c.w, c.m, c.n); got != c.want || !ok {
			t.Error(c, got, ok)
		}
	}
}

// joinedFits looks at what is joined from two valid numbers, where want is told apart from the program.
func joinedFits(t *testing.T, z, w impl.Gauss, p two, want impl.Gauss) {
	t.Helper()
	got, ok := impl.JoinedOf(z, w, p.m, p.n)
	if got != want || !ok {
		t.Fatal(z, w, p, got, ok, want)
	}
	if !impl.SameOk(got, z, p.m) || !impl.SameOk(got, w, p.n) {
		t.Fatal(z, w, p, got)
	}
	product, _ := impl.TimesOf(p.m, p.n)
	if own, ok := impl.RestOf(got, product); own != got || !ok {
		t.Fatal(z, w, p, got, own, ok)
	}
	first, second, ok := impl.PartedOf(got, p.m, p.n)
	if !ok {
		t.Fatal(z, w, p, got)
	}
	if again, ok := impl.JoinedOf(first, second, p.m, p.n); again != got || !ok {
		t.Fatal(z, w, p, got, again, ok)
	}
}

func TestEachTwoRestsAreThoseOfOneNumber(t *testing.T) {
	for _, p := range goodPairs() {
		told := joinTold(p)
		if len(told) != normOf(p.m)*normOf(p.n) {
			t.Fatal(p, len(told))
		}
		for rests, want := range told {
			joinedFits(t, rests.m, rests.n, p, want)
		}
	}
}

func TestJoinedFromNumbersFarFromTheirRests(t *testing.T) {
	far := append(fewNumbers(), smallNumbers(2)...)
	for _, p := range somePairs {
		told := joinTold(p)
		for _, z := range far {
			for _, w := range far {
				joinedFits(t, z, w, p, told[two{restTold(z, p.m), restTold(w, p.n)}])
			}
		}
	}
	for _, p := range goodPairs() {
		told := joinTold(p)
		for _, z := range []impl.Gauss{{}, {A: 1}, {A: 1000, B: 1000}, {A: -999, B: 1000}, {B: -997}} {
			for _, w := range []impl.Gauss{{}, {A: 1}, {A: 1000, B: -1000}, {A: 998, B: 501}} {
				joinedFits(t, z, w, p, told[two{restTold(z, p.m), restTold(w, p.n)}])
			}
		}
	}
}

func TestJoinedOfWrongNumbers(t *testing.T) {
	refused := func(z, w impl.Gauss, p two) {
		t.Helper()
		if got, ok := impl.JoinedOf(z, w, p.m, p.n); got != (impl.Gauss{}) || ok {
			t.Fatal(z, w, p, got, ok)
		}
	}
	some := []impl.Gauss{{}, {A: 1}, {B: -1}, {A: 2, B: 1}, {A: 1000, B: -1000}, {A: 1001}, {B: -1001}}
	for _, p := range wrongPairs() {
		for _, z := range some {
			for _, w := range some {
				refused(z, w, p)
			}
		}
	}
	for _, z := range wrongNumbers() {
		for _, p := range somePairs {
			for _, w := range some {
				refused(z, w, p)
				refused(w, z, p)
			}
			refused(z, z, p)
		}
	}
}

// Promise 44.

func TestPartedNumbers(t *testing.T) {
	for _, c := range []struct {
		z, m, n, first, second impl.Gauss
	}{
		{impl.Gauss{A: 7}, impl.Gauss{A: 2, B: 1}, impl.Gauss{A: 2, B: -1}, impl.Gauss{B: -1}, impl.Gauss{B: 1}},
		{impl.Gauss{}, impl.Gauss{A: 2, B: 1}, impl.Gauss{A: 2, B: -1}, impl.Gauss{}, impl.Gauss{}},
		{impl.Gauss{A: 1}, impl.Gauss{A: 2, B: 1}, impl.Gauss{A: 2, B: -1}, impl.Gauss{A: 1}, impl.Gauss{A: 1}},
		{impl.Gauss{A: 5}, impl.Gauss{A: 2, B: 1}, impl.Gauss{A: 2, B: -1}, impl.Gauss{}, impl.Gauss{}},
		{impl.Gauss{A: 1, B: 1}, impl.Gauss{A: 2, B: 1}, impl.Gauss{A: 2, B: -1}, impl.Gauss{A: -1}, impl.Gauss{B: -1}},
		{impl.Gauss{A: 1, B: 1}, impl.Gauss{A: 2, B: -1}, impl.Gauss{A: 2, B: 1}, impl.Gauss{B: -1}, impl.Gauss{A: -1}},
		{impl.Gauss{A: 2, B: 2}, impl.Gauss{A: 3}, impl.Gauss{A: 1, B: 1}, impl.Gauss{A: -1, B: -1}, impl.Gauss{}},
		// Products of just the greatest norm.
		{impl.Gauss{A: -1, B: -5}, impl.Gauss{A: 2}, impl.Gauss{A: 3, B: 4}, impl.Gauss{A: -1, B: -1}, impl.Gauss{A: 2, B: -1}},
		{impl.Gauss{A: -1, B: -5}, impl.Gauss{A: 3, B: 4}, impl.Gauss{A: 2}, impl.Gauss{A: 2, B: -1}, impl.Gauss{A: -1, B: -1}},
		{impl.Gauss{A: 1}, impl.Gauss{A: 2}, impl.Gauss{A: 3, B: 4}, impl.Gauss{A: -1}, impl.Gauss{A: 1}},
		{impl.Gauss{A: -1000, B: 999}, impl.Gauss{A: 4, B: 2}, impl.Gauss{A: 2, B: -1}, impl.Gauss{B: -1}, impl.Gauss{B: -1}},
		// Units as one of both, and as both.
		{impl.Gauss{A: 7, B: 2}, impl.Gauss{A: 1}, impl.Gauss{A: 10}, impl.Gauss{}, impl.Gauss{A: -3, B: 2}},
		{impl.Gauss{A: 7, B: 2}, impl.Gauss{A: 10}, impl.Gauss{B: 1}, impl.Gauss{A: -3, B: 2}, impl.Gauss{}},
		{impl.Gauss{A: 5, B: 5}, impl.Gauss{A: -1}, impl.Gauss{A: 10}, impl.Gauss{}, impl.Gauss{A: -5, B: -5}},
		{impl.Gauss{A: 5, B: 5}, impl.Gauss{A: -10}, impl.Gauss{A: 1}, impl.Gauss{A: 5, B: 5}, impl.Gauss{}},
		{impl.Gauss{A: 3}, impl.Gauss{A: 1, B: 1}, impl.Gauss{B: -1}, impl.Gauss{B: -1}, impl.Gauss{}},
		{impl.Gauss{A: 1}, impl.Gauss{A: 1}, impl.Gauss{A: -1}, impl.Gauss{}, impl.Gauss{}},
		{impl.Gauss{A: 1000, B: 999}, impl.Gauss{B: 1}, impl.Gauss{B: 1}, impl.Gauss{}, impl.Gauss{}},
		// Far from the rests.
		{impl.Gauss{A: 1000, B: 1000}, impl.Gauss{A: 3}, impl.Gauss{A: 2, B: 1}, impl.Gauss{A: 1, B: 1}, impl.Gauss{}},
		{impl.Gauss{A: 997, B: -1000}, impl.Gauss{A: 7}, impl.Gauss{A: 1, B: 1}, impl.Gauss{A: 3, B: 1}, impl.Gauss{B: -1}},
	} {
		if first, second, ok := impl.PartedOf(c.z, c.m, c.n); first != c.first || second != c.second || !ok {
			t.Error(c, first, second, ok)
		}
	}
}

func TestPartedNumbersAreJoinedAgain(t *testing.T) {
	far := append(fewNumbers(), smallNumbers(8)...)
	for _, p := range goodPairs() {
		for _, z := range far {
			first, second, ok := impl.PartedOf(z, p.m, p.n)
			if first != restTold(z, p.m) || second != restTold(z, p.n) || !ok {
				t.Fatal(z, p, first, second, ok)
			}
			if got, ok := impl.JoinedOf(first, second, p.m, p.n); got != restTold(z, p.both()) || !ok {
				t.Fatal(z, p, first, second, got, ok)
			}
		}
	}
}

// partsFit: what is joined of z and w by the product is parted into what is joined of their parts.
func partsFit(t *testing.T, join joining, z, w impl.Gauss, p two) {
	t.Helper()
	whole, ok := join(z, w, p.both())
	if !ok {
		t.Fatal(z, w, p)
	}
	first, second, ok := impl.PartedOf(whole, p.m, p.n)
	if !ok {
		t.Fatal(z, w, p, whole)
	}
	zFirst, zSecond, _ := impl.PartedOf(z, p.m, p.n)
	wFirst, wSecond, _ := impl.PartedOf(w, p.m, p.n)
	if want, ok := join(zFirst, wFirst, p.m); first != want || !ok {
		t.Fatal(z, w, p, first, want, ok)
	}
	if want, ok := join(zSecond, wSecond, p.n); second != want || !ok {
		t.Fatal(z, w, p, second, want, ok)
	}
}

func TestProductsAndSumsArePartedPartByPart(t *testing.T) {
	for _, p := range somePairs {
		list := append(restsTold(p.both()), fewNumbers()...)
		for _, z := range list {
			for _, w := range list {
				partsFit(t, impl.MultipliedBy, z, w, p)
				partsFit(t, impl.AddedBy, z, w, p)
			}
		}
	}
	for _, p := range goodPairs() {
		for _, z := range []impl.Gauss{{}, {A: 1}, {A: 3, B: -4}, {A: 1000, B: -999}} {
			for _, w := range []impl.Gauss{{A: 1}, {A: 1, B: 1}, {A: -6, B: 1}, {A: -1000, B: 1000}} {
				partsFit(t, impl.MultipliedBy, z, w, p)
				partsFit(t, impl.AddedBy, z, w, p)
			}
		}
	}
}

func TestPartedOfWrongNumbers(t *testing.T) {
	refused := func(z impl.Gauss, p two) {
		t.Helper()
		if first, second, ok := impl.PartedOf(z, p.m, p.n); first != (impl.Gauss{}) || second != (impl.Gauss{}) || ok {
			t.Fatal(z, p, first, second, ok)
		}
	}
	for _, p := range wrongPairs() {
		for _, z := range []impl.Gauss{{}, {A: 1}, {B: -1}, {A: 7}, {A: 1000, B: -1000}, {A: 1001}, p.m} {
			refused(z, p)
		}
	}
	for _, z := range wrongNumbers() {
		for _, p := range somePairs {
			refused(z, p)
		}
	}
}

// Promise 45.

func TestCarriers(t *testing.T) {
	for _, c := range []struct {
		m, n, first, second impl.Gauss
	}{
		{impl.Gauss{A: 2, B: 1}, impl.Gauss{A: 2, B: -1}, impl.Gauss{A: -2, B: 1}, impl.Gauss{A: -2, B: -1}},
		{impl.Gauss{A: 2, B: -1}, impl.Gauss{A: 2, B: 1}, impl.Gauss{A: -2, B: -1}, impl.Gauss{A: -2, B: 1}},
		{impl.Gauss{A: 3}, impl.Gauss{A: 1, B: 1}, impl.Gauss{A: -2}, impl.Gauss{B: -3}},
		{impl.Gauss{A: 1, B: 1}, impl.Gauss{A: 3}, impl.Gauss{B: -3}, impl.Gauss{A: -2}},
		{impl.Gauss{A: 3}, impl.Gauss{A: 2, B: 1}, impl.Gauss{A: 1, B: 3}, impl.Gauss{B: -3}},
		{impl.Gauss{A: 3, B: 4}, impl.Gauss{A: 1, B: 1}, impl.Gauss{A: -3, B: 3}, impl.Gauss{A: 4, B: -3}},
		{impl.Gauss{A: 7}, impl.Gauss{A: 1, B: 1}, impl.Gauss{A: -6}, impl.Gauss{B: -7}},
		// Products of just the greatest norm.
		{impl.Gauss{A: 2}, impl.Gauss{A: 3, B: 4}, impl.Gauss{A: -3, B: -4}, impl.Gauss{A: -2, B: -4}},
		{impl.Gauss{B: 2}, impl.Gauss{A: 3, B: 4}, impl.Gauss{A: 3, B: 4}, impl.Gauss{A: -2, B: -4}},
		{impl.Gauss{A: 3, B: 4}, impl.Gauss{A: 2}, impl.Gauss{A: -2, B: -4}, impl.Gauss{A: -3, B: -4}},
		{impl.Gauss{A: 4, B: 2}, impl.Gauss{A: 2, B: -1}, impl.Gauss{A: 3, B: -4}, impl.Gauss{A: -2, B: 4}},
		{impl.Gauss{A: 4}, impl.Gauss{A: 2, B: 1}, impl.Gauss{A: -3, B: -4}, impl.Gauss{A: -4}},
		{impl.Gauss{A: 2, B: 1}, impl.Gauss{B: 4}, impl.Gauss{A: -4}, impl.Gauss{A: 5}},
		// Units as one of both: one carrier is 0, and the other one the rest of 1.
		{impl.Gauss{A: 1}, impl.Gauss{A: 3}, impl.Gauss{}, impl.Gauss{A: 1}},
		{impl.Gauss{A: 3}, impl.Gauss{A: 1}, impl.Gauss{A: 1}, impl.Gauss{}},
		{impl.Gauss{A: 1}, impl.Gauss{A: 10}, impl.Gauss{}, impl.Gauss{A: 1}},
		{impl.Gauss{A: 10}, impl.Gauss{B: 1}, impl.Gauss{A: 1}, impl.Gauss{}},
		{impl.Gauss{A: 1}, impl.Gauss{A: 1, B: 1}, impl.Gauss{}, impl.Gauss{B: -1}},
		{impl.Gauss{B: 1}, impl.Gauss{A: 1, B: 1}, impl.Gauss{}, impl.Gauss{A: 1}},
		{impl.Gauss{A: 2}, impl.Gauss{A: 1}, impl.Gauss{A: -1}, impl.Gauss{}},
		{impl.Gauss{A: 2}, impl.Gauss{A: -1}, impl.Gauss{A: 1}, impl.Gauss{}},
		// Units as both: 0 is the rest of 1 too.
		{impl.Gauss{A: 1}, impl.Gauss{A: 1}, impl.Gauss{}, impl.Gauss{}},
		{impl.Gauss{B: 1}, impl.Gauss{B: -1}, impl.Gauss{}, impl.Gauss{}},
		{impl.Gauss{A: -1}, impl.Gauss{A: -1}, impl.Gauss{}, impl.Gauss{}},
	} {
		if first, second, ok := impl.CarriersOf(c.m, c.n); first != c.first || second != c.second || !ok {
			t.Error(c, first, second, ok)
		}
	}
}

// carrierFits: it is a rest by the product that leaves 1 by the one modulus, and 0 by the other one.
func carrierFits(carrier, one, nought, both impl.Gauss) bool {
	return inSquare(carrier, both) && divides(one, apartBy(carrier, impl.Gauss{A: 1})) && divides(nought, carrier)
}

func TestCarriersLeaveOneAndNought(t *testing.T) {
	for _, p := range goodPairs() {
		first, second, ok := impl.CarriersOf(p.m, p.n)
		if !ok || !carrierFits(first, p.m, p.n, p.both()) || !carrierFits(second, p.n, p.m, p.both()) {
			t.Fatal(p, first, second, ok)
		}
		if want, ok := impl.JoinedOf(impl.Gauss{A: 1}, impl.Gauss{}, p.m, p.n); first != want || !ok {
			t.Fatal(p, first, want, ok)
		}
		if want, ok := impl.JoinedOf(impl.Gauss{}, impl.Gauss{A: 1}, p.m, p.n); second != want || !ok {
			t.Fatal(p, second, want, ok)
		}
	}
}

func TestCarriersAreTheirOwnSquares(t *testing.T) {
	for _, p := range goodPairs() {
		first, second, ok := impl.CarriersOf(p.m, p.n)
		if !ok {
			t.Fatal(p)
		}
		product, _ := impl.TimesOf(p.m, p.n)
		for _, carrier := range []impl.Gauss{first, second} {
			if square, ok := impl.MultipliedBy(carrier, carrier, product); square != carrier || !ok {
				t.Fatal(p, carrier, square, ok)
			}
		}
		if nought, ok := impl.MultipliedBy(first, second, product); nought != (impl.Gauss{}) || !ok {
			t.Fatal(p, first, second, nought, ok)
		}
		one, _ := impl.RestOf(impl.Gauss{A: 1}, product)
		if sum, ok := impl.AddedBy(first, second, product); sum != one || !ok {
			t.Fatal(p, first, second, sum, ok)
		}
	}
}

func TestCarriersOfWrongModules(t *testing.T) {
	for _, p := range wrongPairs() {
		if first, second, ok := impl.CarriersOf(p.m, p.n); first != (impl.Gauss{}) || second != (impl.Gauss{}) || ok {
			t.Fatal(p, first, second, ok)
		}
	}
}
