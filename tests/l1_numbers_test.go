package tests

import (
	"regexp"
	"strconv"
	"strings"
	"testing"

	"loop.example/gaussnumbers/impl"
)

// Promise 1.

func TestNumbersHaveBothPartsInBounds(t *testing.T) {
	if impl.MaxPart != 1000 {
		t.Fatal(impl.MaxPart)
	}
	for _, z := range []impl.Gauss{{}, {B: 1}, {A: 1}, {A: -1000}, {A: 1000}, {B: -1000}, {B: 1000}, {A: -1000, B: 1000}, {A: 1000, B: -1000}} {
		if !impl.GaussOk(z) {
			t.Error(z)
		}
	}
	for _, z := range []impl.Gauss{{A: -1001}, {A: 1001}, {B: -1001}, {B: 1001}, {A: 1000, B: 1001}, {A: -1001, B: 1000}} {
		if impl.GaussOk(z) {
			t.Error(z)
		}
	}
	for _, z := range sampleNumbers() {
		if !impl.GaussOk(z) {
			t.Error(z)
		}
	}
	for _, z := range wrongNumbers() {
		if impl.GaussOk(z) {
			t.Error(z)
		}
	}
}

func TestNumbersWithPartsExchanged(t *testing.T) {
	for _, z := range append(sampleNumbers(), wrongNumbers()...) {
		if impl.GaussOk(z) != impl.GaussOk(impl.Gauss{A: z.B, B: z.A}) {
			t.Error(z)
		}
	}
}

// Promise 2.

func TestSumsAddPartByPart(t *testing.T) {
	for _, z := range sampleNumbers() {
		for _, w := range sampleNumbers() {
			want := impl.Gauss{A: z.A + w.A, B: z.B + w.B}
			told := inBounds(want.A, want.B)
			if !told {
				want = impl.Gauss{}
			}
			if got, ok := impl.PlusOf(z, w); got != want || ok != told {
				t.Fatal(z, w, got, ok)
			}
		}
	}
}

func TestSumsAtTheBounds(t *testing.T) {
	for _, c := range []struct {
		z, w, want impl.Gauss
		ok         bool
	}{
		{impl.Gauss{}, impl.Gauss{}, impl.Gauss{}, true},
		{impl.Gauss{A: 2, B: 3}, impl.Gauss{A: 1, B: -1}, impl.Gauss{A: 3, B: 2}, true},
		{impl.Gauss{A: 999}, impl.Gauss{A: 1}, impl.Gauss{A: 1000}, true},
		{impl.Gauss{A: 1000}, impl.Gauss{A: 1}, impl.Gauss{}, false},
		{impl.Gauss{B: -999}, impl.Gauss{B: -1}, impl.Gauss{B: -1000}, true},
		{impl.Gauss{A: 5, B: -1000}, impl.Gauss{A: 5, B: -1}, impl.Gauss{}, false},
		{impl.Gauss{A: 1000, B: 1000}, impl.Gauss{A: -1000, B: -1000}, impl.Gauss{}, true},
	} {
		if got, ok := impl.PlusOf(c.z, c.w); got != c.want || ok != c.ok {
			t.Error(c, got, ok)
		}
	}
}

func TestSumsInAnyBrackets(t *testing.T) {
	list := fewNumbers()
	for _, z := range list {
		for _, w := range list {
			zw, okZW := impl.PlusOf(z, w)
			if wz, ok := impl.PlusOf(w, z); wz != zw || ok != okZW {
				t.Fatal(z, w)
			}
			for _, x := range list {
				wx, okWX := impl.PlusOf(w, x)
				if !okZW || !okWX {
					continue
				}
				left, okLeft := impl.PlusOf(zw, x)
				right, okRight := impl.PlusOf(z, wx)
				if left != right || okLeft != okRight {
					t.Fatal(z, w, x)
				}
			}
		}
	}
}

func TestSumsWithOtherSignsAreNought(t *testing.T) {
	for _, z := range sampleNumbers() {
		if got, ok := impl.PlusOf(z, impl.MinusOf(z)); got != (impl.Gauss{}) || !ok {
			t.Error(z, got, ok)
		}
	}
}

func TestSumsOfWrongNumbers(t *testing.T) {
	refusedWithWrong(t, impl.PlusOf)
}

// refusedWithWrong: also where the exact result, or one that wraps around, is in bounds.
func refusedWithWrong(t *testing.T, join func(impl.Gauss, impl.Gauss) (impl.Gauss, bool)) {
	t.Helper()
	refused := func(z, w impl.Gauss) {
		t.Helper()
		if got, ok := join(z, w); got != (impl.Gauss{}) || ok {
			t.Error(z, w, got, ok)
		}
	}
	for _, z := range wrongNumbers() {
		for _, w := range fewNumbers() {
			refused(z, w)
			refused(w, z)
		}
		for _, w := range wrongNumbers() {
			refused(z, w)
		}
	}
	refused(impl.Gauss{A: 1001}, impl.Gauss{A: -1})
	refused(impl.Gauss{A: -1}, impl.Gauss{A: 1001})
	refused(impl.Gauss{}, impl.Gauss{B: 1001})
	refused(impl.Gauss{B: -1001}, impl.Gauss{})
}

// Promise 3.

func TestProductsMultiplyParts(t *testing.T) {
	for _, z := range sampleNumbers() {
		for _, w := range sampleNumbers() {
			want := impl.Gauss{A: z.A*w.A - z.B*w.B, B: z.A*w.B + z.B*w.A}
			told := inBounds(want.A, want.B)
			if !told {
				want = impl.Gauss{}
			}
			if got, ok := impl.TimesOf(z, w); got != want || ok != told {
				t.Fatal(z, w, got, ok)
			}
		}
	}
}

func TestProductsAtTheBounds(t *testing.T) {
	for _, c := range []struct {
		z, w, want impl.Gauss
		ok         bool
	}{
		{impl.Gauss{}, impl.Gauss{A: 1000, B: 1000}, impl.Gauss{}, true},
		{impl.Gauss{B: 1}, impl.Gauss{B: 1}, impl.Gauss{A: -1}, true},
		{impl.Gauss{A: 2, B: 3}, impl.Gauss{A: 1, B: -1}, impl.Gauss{A: 5, B: 1}, true},
		{impl.Gauss{A: 100}, impl.Gauss{A: 10}, impl.Gauss{A: 1000}, true},
		{impl.Gauss{A: 100}, impl.Gauss{A: 11}, impl.Gauss{}, false},
		{impl.Gauss{A: 100}, impl.Gauss{B: -10}, impl.Gauss{B: -1000}, true},
		{impl.Gauss{A: 91}, impl.Gauss{B: 11}, impl.Gauss{}, false},
		{impl.Gauss{A: 77}, impl.Gauss{B: -13}, impl.Gauss{}, false},
		{impl.Gauss{A: 1000, B: 1000}, impl.Gauss{B: 1}, impl.Gauss{A: -1000, B: 1000}, true},
		{impl.Gauss{A: 1000, B: 1}, impl.Gauss{A: 1, B: 1}, impl.Gauss{}, false},
		{impl.Gauss{A: 500, B: 500}, impl.Gauss{A: 1, B: 1}, impl.Gauss{B: 1000}, true},
	} {
		if got, ok := impl.TimesOf(c.z, c.w); got != c.want || ok != c.ok {
			t.Error(c, got, ok)
		}
	}
}

func TestProductsInAnyBrackets(t *testing.T) {
	list := fewNumbers()
	for _, z := range list {
		for _, w := range list {
			zw, okZW := impl.TimesOf(z, w)
			if wz, ok := impl.TimesOf(w, z); wz != zw || ok != okZW {
				t.Fatal(z, w)
			}
			for _, x := range list {
				wx, okWX := impl.TimesOf(w, x)
				if !okZW || !okWX {
					continue
				}
				left, okLeft := impl.TimesOf(zw, x)
				right, okRight := impl.TimesOf(z, wx)
				if left != right || okLeft != okRight {
					t.Fatal(z, w, x)
				}
			}
		}
	}
}

func TestProductsOverSums(t *testing.T) {
	list := fewNumbers()
	for _, z := range list {
		for _, w := range list {
			for _, x := range list {
				sum, ok := impl.PlusOf(w, x)
				zw, okZW := impl.TimesOf(z, w)
				zx, okZX := impl.TimesOf(z, x)
				if !ok || !okZW || !okZX {
					continue
				}
				left, okLeft := impl.TimesOf(z, sum)
				right, okRight := impl.PlusOf(zw, zx)
				if left != right || okLeft != okRight {
					t.Fatal(z, w, x)
				}
			}
		}
	}
}

func TestProductsOfWrongNumbers(t *testing.T) {
	refusedWithWrong(t, impl.TimesOf)
}

// Promise 4.

func TestOtherSigns(t *testing.T) {
	for _, z := range sampleNumbers() {
		minus := impl.MinusOf(z)
		if minus != (impl.Gauss{A: -z.A, B: -z.B}) {
			t.Error(z, minus)
		}
		if impl.MinusOf(minus) != z {
			t.Error(z)
		}
		if got, ok := impl.TimesOf(z, impl.Gauss{A: -1}); got != minus || !ok {
			t.Error(z, got, ok)
		}
	}
	for _, z := range wrongNumbers() {
		if got := impl.MinusOf(z); got != (impl.Gauss{}) {
			t.Error(z, got)
		}
	}
}

// Promise 5.

func TestTurnedOver(t *testing.T) {
	for _, z := range sampleNumbers() {
		over := impl.OverOf(z)
		if over != (impl.Gauss{A: z.A, B: -z.B}) {
			t.Error(z, over)
		}
		if impl.OverOf(over) != z {
			t.Error(z)
		}
		if got, ok := impl.TimesOf(z, over); ok && got != (impl.Gauss{A: impl.NormOf(z)}) {
			t.Error(z, got)
		}
	}
	for _, z := range wrongNumbers() {
		if got := impl.OverOf(z); got != (impl.Gauss{}) {
			t.Error(z, got)
		}
	}
}

func TestTurnedOverInSumsAndProducts(t *testing.T) {
	for _, z := range fewNumbers() {
		for _, w := range fewNumbers() {
			sum, okSum := impl.PlusOf(z, w)
			if got, ok := impl.PlusOf(impl.OverOf(z), impl.OverOf(w)); got != impl.OverOf(sum) || ok != okSum {
				t.Error(z, w, got, ok)
			}
			product, okProduct := impl.TimesOf(z, w)
			if got, ok := impl.TimesOf(impl.OverOf(z), impl.OverOf(w)); got != impl.OverOf(product) || ok != okProduct {
				t.Error(z, w, got, ok)
			}
		}
	}
}

func TestTimesItselfTurnedOver(t *testing.T) {
	z := impl.Gauss{A: 18, B: -26}
	if got, ok := impl.TimesOf(z, impl.OverOf(z)); got != (impl.Gauss{A: 1000}) || !ok || impl.NormOf(z) != 1000 {
		t.Error(got, ok)
	}
	if got, ok := impl.TimesOf(impl.Gauss{A: 32}, impl.OverOf(impl.Gauss{A: 32})); got != (impl.Gauss{}) || ok {
		t.Error(got, ok)
	}
}

// Promise 6.

func TestNorms(t *testing.T) {
	for _, c := range []struct {
		z    impl.Gauss
		want int
	}{
		{impl.Gauss{}, 0},
		{impl.Gauss{B: -1}, 1},
		{impl.Gauss{A: 2, B: 3}, 13},
		{impl.Gauss{A: -7}, 49},
		{impl.Gauss{A: -1000, B: 1000}, 2000000},
		{impl.Gauss{A: 1001}, -1},
		{impl.Gauss{B: -1001}, -1},
	} {
		if got := impl.NormOf(c.z); got != c.want {
			t.Error(c, got)
		}
	}
	for _, z := range sampleNumbers() {
		norm := impl.NormOf(z)
		if norm != z.A*z.A+z.B*z.B || (norm == 0) != (z == impl.Gauss{}) {
			t.Error(z, norm)
		}
		if impl.NormOf(impl.OverOf(z)) != norm {
			t.Error(z)
		}
	}
	for _, z := range wrongNumbers() {
		if got := impl.NormOf(z); got != -1 {
			t.Error(z, got)
		}
	}
}

func TestNormsAreMultiplied(t *testing.T) {
	for _, z := range sampleNumbers() {
		for _, w := range fewNumbers() {
			product, ok := impl.TimesOf(z, w)
			if ok && impl.NormOf(product) != impl.NormOf(z)*impl.NormOf(w) {
				t.Error(z, w)
			}
		}
	}
}

// Promise 7.

func TestTexts(t *testing.T) {
	for _, c := range []struct {
		z    impl.Gauss
		want string
	}{
		{impl.Gauss{}, "0"},
		{impl.Gauss{A: 1}, "1"},
		{impl.Gauss{A: -1}, "-1"},
		{impl.Gauss{A: 1000}, "1000"},
		{impl.Gauss{A: -1000}, "-1000"},
		{impl.Gauss{B: 1}, "i"},
		{impl.Gauss{B: -1}, "-i"},
		{impl.Gauss{B: 2}, "2i"},
		{impl.Gauss{B: -2}, "-2i"},
		{impl.Gauss{B: 10}, "10i"},
		{impl.Gauss{B: -1000}, "-1000i"},
		{impl.Gauss{A: 2, B: 3}, "2+3i"},
		{impl.Gauss{A: 2, B: -3}, "2-3i"},
		{impl.Gauss{A: -2, B: 3}, "-2+3i"},
		{impl.Gauss{A: -4, B: -1}, "-4-i"},
		{impl.Gauss{A: 1, B: 1}, "1+i"},
		{impl.Gauss{A: -1, B: 11}, "-1+11i"},
		{impl.Gauss{A: -1000, B: -1000}, "-1000-1000i"},
		{impl.Gauss{A: 1000, B: 1000}, "1000+1000i"},
		{impl.Gauss{A: 1001}, ""},
		{impl.Gauss{B: -1001}, ""},
		{impl.Gauss{A: 1, B: 1001}, ""},
	} {
		if got := impl.TextOf(c.z); got != c.want {
			t.Error(c, got)
		}
		z, ok := impl.ReadText(c.want)
		if c.want == "" && (ok || z != impl.Gauss{}) || c.want != "" && (!ok || z != c.z) {
			t.Error(c, z, ok)
		}
	}
	for _, z := range wrongNumbers() {
		if got := impl.TextOf(z); got != "" {
			t.Error(z, got)
		}
	}
}

func TestTextsAreRead(t *testing.T) {
	var all []int
	for n := -1000; n <= 1000; n++ {
		all = append(all, n)
	}
	for _, z := range append(pairsOf(all, edgeParts), pairsOf(edgeParts, all)...) {
		text := impl.TextOf(z)
		if got, ok := impl.ReadText(text); got != z || !ok {
			t.Fatal(z, text, got, ok)
		}
	}
}

// Promise 8.

// shape tells the texts of numbers apart from all others, but for the greatest part.
var shape = regexp.MustCompile(`^(?:0|-?[1-9][0-9]*|(-?[1-9][0-9]*[+-]|-)?(?:[2-9]|[1-9][0-9]+)?i)$`)

// shortTexts are all texts of at most so many of the letters.
func shortTexts(letters string, most int) []string {
	list := []string{""}
	last := list
	for range most {
		var longer []string
		for _, s := range last {
			for _, c := range letters {
				longer = append(longer, s+string(c))
			}
		}
		list = append(list, longer...)
		last = longer
	}
	return list
}

func TestReadTextsAreCanonical(t *testing.T) {
	for _, s := range shortTexts("+-i0129", 5) {
		z, ok := impl.ReadText(s)
		// With at most five letters the shape alone leaves parts past the greatest one.
		digits, _ := strconv.Atoi(strings.Trim(s, "+-i"))
		if want := shape.MatchString(s) && digits <= 1000 && digits >= -1000; ok != want {
			t.Fatal(strconv.Quote(s), z, ok)
		}
		if ok && impl.TextOf(z) != s || !ok && z != (impl.Gauss{}) {
			t.Fatal(strconv.Quote(s), z, ok)
		}
	}
}

func TestTextsOfNone(t *testing.T) {
	for _, s := range []string{
		"", " ", "+", "-", "+i", "--i", "-+i", "1i", "-1i", "0i", "-0i", "0+i", "0-i", "2+0i", "2-0i", "2+1i", "2-1i", "2+", "2-",
		"-0", "+0", "00", "01", "+1", "-01", "02i", "2+03i", "2+-3i", "2-+3i", "2--3i", "2++3i", "2+3", "2+3i+i", "2+3ii", "ii", "i2", "i+2", "3i+2",
		" 2", "2 ", "2 +3i", "2+ 3i", "2+3i ", "2+3i\n", "\n", "2+3I", "2+3j", "2+3i\x00", "\x00", "\xff", "2\xff",
		"1001", "-1001", "1001i", "-1001i", "1001+i", "1+1001i", "1-1001i", "1000+1001i", "-1000-1001i", "10000",
		"1_0", "1e2", "0x1", "0b1", "1.0", "2,3", "\u0663", "\u22121", "\uff11",
		"9223372036854775807", "9223372036854775808", "-9223372036854775808", "18446744073709551616", "18446744073709551617i", "1+18446744073709551618i",
		strings.Repeat("0", 10000), strings.Repeat("9", 10000) + "i", strings.Repeat("-", 10000) + "i",
	} {
		if z, ok := impl.ReadText(s); ok || z != (impl.Gauss{}) {
			t.Error(strconv.Quote(s), z, ok)
		}
	}
}

func TestTextsWithAnIBehind(t *testing.T) {
	for _, z := range append(sampleNumbers(), fewNumbers()...) {
		got, ok := impl.ReadText(impl.TextOf(z) + "i")
		want, told := impl.Gauss{}, z.B == 0 && (z.A >= 2 || z.A < -1)
		if told {
			want = impl.Gauss{B: z.A}
		}
		if got != want || ok != told {
			t.Error(z, got, ok)
		}
	}
}
