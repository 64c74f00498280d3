package tests

import (
	"math"
	"testing"

	"loop.example/gaussnumbers/impl"
)

// units has, at each number of times, the unit that i is.
var units = []impl.Gauss{{A: 1}, {B: 1}, {A: -1}, {B: -1}}

// wrongTimes are out of 0..3: just past it, a whole turn further, and where an int wraps around or is cut off.
var wrongTimes = []int{-1, 4, -4, 5, -3, 7, 8, 100, 1 << 32, 1<<32 + 1, -1 << 32, 1 << 62, math.MinInt, math.MinInt + 1, math.MaxInt}

// timesUnit is told apart from TurnedBy and TimesOf, so that tests do not rest on them.
func timesUnit(z impl.Gauss, times int) impl.Gauss {
	for range times {
		z = impl.Gauss{A: -z.B, B: z.A}
	}
	return z
}

// onLines are numbers on the lines between quarters: those with one part alone, on both sides of 0, and 0.
func onLines() []impl.Gauss {
	list := []impl.Gauss{{}}
	for n := 1; n <= 1000; n++ {
		list = append(list, impl.Gauss{A: n}, impl.Gauss{A: -n}, impl.Gauss{B: n}, impl.Gauss{B: -n})
	}
	return list
}

func inFirstQuarter(z impl.Gauss) bool {
	return z.A > 0 && z.B >= 0
}

// Promise 9.

func TestUnits(t *testing.T) {
	for times, want := range units {
		if got, ok := impl.UnitOf(times); got != want || !ok {
			t.Error(times, got, ok)
		}
		if !impl.UnitOk(want) {
			t.Error(want)
		}
	}
	for _, times := range wrongTimes {
		if got, ok := impl.UnitOf(times); got != (impl.Gauss{}) || ok {
			t.Error(times, got, ok)
		}
	}
}

func TestUnitsAreMultipliedByAdding(t *testing.T) {
	for first := range 4 {
		for second := range 4 {
			z, okZ := impl.UnitOf(first)
			w, okW := impl.UnitOf(second)
			both := first + second
			if both >= 4 {
				both -= 4
			}
			want, okBoth := impl.UnitOf(both)
			if got, ok := impl.TimesOf(z, w); got != want || !ok || !okZ || !okW || !okBoth {
				t.Error(first, second, got, ok)
			}
		}
	}
}

// Promise 10.

func TestQuarterTurns(t *testing.T) {
	for _, c := range []struct {
		z     impl.Gauss
		times int
		want  impl.Gauss
	}{
		{impl.Gauss{A: -2, B: 3}, 0, impl.Gauss{A: -2, B: 3}},
		{impl.Gauss{A: -2, B: 3}, 1, impl.Gauss{A: -3, B: -2}},
		{impl.Gauss{A: -2, B: 3}, 2, impl.Gauss{A: 2, B: -3}},
		{impl.Gauss{A: -2, B: 3}, 3, impl.Gauss{A: 3, B: 2}},
		{impl.Gauss{}, 0, impl.Gauss{}},
		{impl.Gauss{}, 3, impl.Gauss{}},
		{impl.Gauss{A: 5}, 1, impl.Gauss{B: 5}},
		{impl.Gauss{B: 5}, 1, impl.Gauss{A: -5}},
		{impl.Gauss{A: -5}, 3, impl.Gauss{B: 5}},
		{impl.Gauss{B: -5}, 3, impl.Gauss{A: -5}},
		{impl.Gauss{A: 1000, B: -1000}, 1, impl.Gauss{A: 1000, B: 1000}},
		{impl.Gauss{A: -1000, B: 999}, 2, impl.Gauss{A: 1000, B: -999}},
		{impl.Gauss{A: -1000}, 3, impl.Gauss{B: 1000}},
	} {
		if got := impl.TurnedBy(c.z, c.times); got != c.want {
			t.Error(c, got)
		}
	}
}

func TestFourQuarterTurns(t *testing.T) {
	for _, z := range append(sampleNumbers(), onLines()...) {
		for times, unit := range units {
			turned := impl.TurnedBy(z, times)
			if turned != timesUnit(z, times) {
				t.Error(z, times, turned)
			}
			if product, ok := impl.TimesOf(z, unit); turned != product || !ok {
				t.Error(z, times, turned)
			}
			if got := impl.TurnedBy(turned, (4-times)%4); got != z {
				t.Error(z, times, got)
			}
			if impl.NormOf(turned) != impl.NormOf(z) {
				t.Error(z, times, turned)
			}
		}
	}
}

func TestTurnsOfNone(t *testing.T) {
	for _, z := range append(sampleNumbers(), wrongNumbers()...) {
		for _, times := range wrongTimes {
			if got := impl.TurnedBy(z, times); got != (impl.Gauss{}) {
				t.Error(z, times, got)
			}
		}
	}
	for _, z := range wrongNumbers() {
		for times := range 4 {
			if got := impl.TurnedBy(z, times); got != (impl.Gauss{}) {
				t.Error(z, times, got)
			}
		}
	}
}

// Promise 11.

func TestAssociates(t *testing.T) {
	for _, c := range []struct {
		z, w impl.Gauss
		want bool
	}{
		{impl.Gauss{}, impl.Gauss{}, true},
		{impl.Gauss{}, impl.Gauss{A: 1}, false},
		{impl.Gauss{B: 1}, impl.Gauss{}, false},
		{impl.Gauss{A: -2, B: 3}, impl.Gauss{A: 3, B: 2}, true},
		{impl.Gauss{A: -2, B: 3}, impl.Gauss{A: 2, B: 3}, false},
		{impl.Gauss{A: 2, B: 3}, impl.Gauss{A: 3, B: 2}, false},
		{impl.Gauss{A: 1, B: 1}, impl.Gauss{A: 1, B: -1}, true},
		{impl.Gauss{A: 5}, impl.Gauss{B: -5}, true},
		{impl.Gauss{A: -5}, impl.Gauss{B: 5}, true},
		{impl.Gauss{A: 5}, impl.Gauss{A: 3, B: 4}, false},
		{impl.Gauss{A: 1000, B: -1000}, impl.Gauss{A: -1000, B: -1000}, true},
		{impl.Gauss{A: 1000, B: 999}, impl.Gauss{A: -999, B: 1000}, true},
		{impl.Gauss{A: 1000, B: 999}, impl.Gauss{A: 999, B: 1000}, false},
		{impl.Gauss{A: 1001}, impl.Gauss{A: 1001}, false},
	} {
		if got := impl.AssociateOk(c.z, c.w); got != c.want {
			t.Error(c, got)
		}
	}
}

func TestAssociatesAreAUnitApart(t *testing.T) {
	list := append(sampleNumbers(), impl.Gauss{A: 3, B: 4}, impl.Gauss{A: -4, B: 3}, impl.Gauss{A: 5}, impl.Gauss{B: 5})
	for _, z := range list {
		if !impl.AssociateOk(z, z) {
			t.Error(z)
		}
		firstZ, _, _ := impl.FirstOf(z)
		for _, w := range list {
			want := false
			for times := range 4 {
				want = want || z == timesUnit(w, times)
			}
			if impl.AssociateOk(z, w) != want || impl.AssociateOk(w, z) != want {
				t.Fatal(z, w, want)
			}
			firstW, _, _ := impl.FirstOf(w)
			if want != (firstZ == firstW) || want && impl.NormOf(z) != impl.NormOf(w) {
				t.Fatal(z, w, want)
			}
		}
	}
}

func TestAssociatesOfNone(t *testing.T) {
	for _, z := range wrongNumbers() {
		for times := range 4 {
			// Where parts wrap around, a turn may even be the number itself.
			if w := timesUnit(z, times); impl.AssociateOk(z, w) || impl.AssociateOk(w, z) {
				t.Error(z, w)
			}
		}
		for _, w := range fewNumbers() {
			if impl.AssociateOk(z, w) || impl.AssociateOk(w, z) {
				t.Error(z, w)
			}
		}
	}
}

// Promise 12.

func TestFirstQuarter(t *testing.T) {
	for _, c := range []struct {
		z, want impl.Gauss
		times   int
		ok      bool
	}{
		{impl.Gauss{}, impl.Gauss{}, 0, true},
		{impl.Gauss{A: 5}, impl.Gauss{A: 5}, 0, true},
		{impl.Gauss{B: 5}, impl.Gauss{A: 5}, 1, true},
		{impl.Gauss{A: -5}, impl.Gauss{A: 5}, 2, true},
		{impl.Gauss{B: -5}, impl.Gauss{A: 5}, 3, true},
		{impl.Gauss{A: 3, B: 2}, impl.Gauss{A: 3, B: 2}, 0, true},
		{impl.Gauss{A: -2, B: 3}, impl.Gauss{A: 3, B: 2}, 1, true},
		{impl.Gauss{A: -3, B: -2}, impl.Gauss{A: 3, B: 2}, 2, true},
		{impl.Gauss{A: 2, B: -3}, impl.Gauss{A: 3, B: 2}, 3, true},
		{impl.Gauss{A: 1, B: 1}, impl.Gauss{A: 1, B: 1}, 0, true},
		{impl.Gauss{A: 1, B: -1}, impl.Gauss{A: 1, B: 1}, 3, true},
		{impl.Gauss{A: -1000, B: 1000}, impl.Gauss{A: 1000, B: 1000}, 1, true},
		{impl.Gauss{A: 1000}, impl.Gauss{A: 1000}, 0, true},
		{impl.Gauss{B: -1000}, impl.Gauss{A: 1000}, 3, true},
		{impl.Gauss{A: -999, B: -1000}, impl.Gauss{A: 999, B: 1000}, 2, true},
		{impl.Gauss{A: 1001}, impl.Gauss{}, -1, false},
		{impl.Gauss{B: -1001}, impl.Gauss{}, -1, false},
	} {
		if got, times, ok := impl.FirstOf(c.z); got != c.want || times != c.times || ok != c.ok {
			t.Error(c, got, times, ok)
		}
	}
}

func TestOneOfFourIsInTheFirstQuarter(t *testing.T) {
	for _, z := range append(sampleNumbers(), onLines()...) {
		first, times, ok := impl.FirstOf(z)
		if !ok || times < 0 || times > 3 || timesUnit(first, times) != z || impl.TurnedBy(first, times) != z {
			t.Fatal(z, first, times, ok)
		}
		if again, more, ok := impl.FirstOf(first); again != first || more != 0 || !ok {
			t.Error(z, again, more, ok)
		}
		if z == (impl.Gauss{}) {
			continue
		}
		for turn := range 4 {
			if inFirstQuarter(impl.TurnedBy(first, turn)) != (turn == 0) {
				t.Error(z, first, turn)
			}
		}
	}
}

func TestFirstQuarterOfNone(t *testing.T) {
	for _, z := range wrongNumbers() {
		if got, times, ok := impl.FirstOf(z); got != (impl.Gauss{}) || times != -1 || ok {
			t.Error(z, got, times, ok)
		}
	}
}

// Promise 13.

func TestUnitsHaveNormsOfOne(t *testing.T) {
	near := []int{-2, -1, 0, 1, 2}
	for _, z := range append(append(sampleNumbers(), onLines()...), pairsOf(near, near)...) {
		want := false
		for _, unit := range units {
			want = want || z == unit
		}
		if impl.UnitOk(z) != want || (impl.NormOf(z) == 1) != want || impl.AssociateOk(z, impl.Gauss{A: 1}) != want {
			t.Error(z, want)
		}
	}
	for _, z := range wrongNumbers() {
		if impl.UnitOk(z) {
			t.Error(z)
		}
	}
	// The squares of these parts wrap around to 1 in all.
	for _, z := range []impl.Gauss{{A: 1 << 32, B: 1}, {A: -1, B: -1 << 32}, {A: 1 << 62, B: 1}, {A: math.MaxInt}, {B: math.MinInt + 1}, {A: math.MinInt, B: 1}} {
		if impl.UnitOk(z) {
			t.Error(z)
		}
	}
}
