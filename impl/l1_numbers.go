package impl

import (
	"strconv"
	"strings"
)

// MaxPart is the greatest part of a Gauss number, without its sign.
const MaxPart = 1000

// Gauss is A ones and B of i.
type Gauss struct {
	A int
	B int
}

// plus adds without a look at bounds; the sum may be none.
func (z Gauss) plus(w Gauss) Gauss {
	return Gauss{A: z.A + w.A, B: z.B + w.B}
}

// times multiplies without a look at bounds; the product may be none.
func (z Gauss) times(w Gauss) Gauss {
	return Gauss{A: z.A*w.A - z.B*w.B, B: z.A*w.B + z.B*w.A}
}

// minus needs bounds that have room for the other sign of each part.
func (z Gauss) minus() Gauss {
	return Gauss{A: -z.A, B: -z.B}
}

// over needs bounds that have room for the other sign of the second part.
func (z Gauss) over() Gauss {
	return Gauss{A: z.A, B: -z.B}
}

// norm needs parts whose squares are told by an int.
func (z Gauss) norm() int {
	return z.A*z.A + z.B*z.B
}

// fold joins the start and all of a list, one after the other. Each one is
// looked at before it is joined, so that join never gets what is not ok.
func fold[T any](start T, list []T, ok func(T) bool, join func(T, T) T) (T, bool) {
	var none T
	whole := start
	for _, next := range list {
		if !ok(next) {
			return none, false
		}
		whole = join(whole, next)
		if !ok(whole) {
			return none, false
		}
	}
	return whole, true
}

// GaussOk reports whether a Gauss number has both parts in -MaxPart..MaxPart.
func GaussOk(z Gauss) bool {
	return partOk(z.A) && partOk(z.B)
}

func partOk(n int) bool {
	return -MaxPart <= n && n <= MaxPart
}

// PlusOf returns the sum of two Gauss numbers (GaussOk): both first parts added, and both second parts; and true; the zero value and false if that is none (GaussOk), and for others.
func PlusOf(z Gauss, w Gauss) (Gauss, bool) {
	return fold(Gauss{}, []Gauss{z, w}, GaussOk, Gauss.plus)
}

// TimesOf returns the product of two Gauss numbers (GaussOk): the product of both first parts less that of both second parts, and the products of each first part and the other second part, added; and true; the zero value and false if that is none (GaussOk), and for others.
func TimesOf(z Gauss, w Gauss) (Gauss, bool) {
	return fold(Gauss{A: 1}, []Gauss{z, w}, GaussOk, Gauss.times)
}

// MinusOf returns a Gauss number (GaussOk) with both parts with the other sign; the zero value for others.
func MinusOf(z Gauss) Gauss {
	if !GaussOk(z) {
		return Gauss{}
	}
	return z.minus()
}

// OverOf returns a Gauss number (GaussOk) turned over: its second part with the other sign; the zero value for others.
func OverOf(z Gauss) Gauss {
	if !GaussOk(z) {
		return Gauss{}
	}
	return z.over()
}

// NormOf returns the norm of a Gauss number (GaussOk), the squares of both parts added; -1 for others.
func NormOf(z Gauss) int {
	if !GaussOk(z) {
		return -1
	}
	return z.norm()
}

// TextOf returns the text of a Gauss number (GaussOk): 0 if both parts are; else the first part in decimal, unless it is 0, with a minus sign ahead if it is less than 0, and then, unless the second part is 0, its sign, a minus sign if it is less than 0, and else a plus sign if the first part is not 0, the second part without its sign, unless that is 1, and i; "" for others.
func TextOf(z Gauss) string {
	if !GaussOk(z) {
		return ""
	}
	if z.B == 0 {
		return strconv.Itoa(z.A)
	}
	if z.A == 0 {
		return timesText(z.B)
	}
	if z.B > 0 {
		return strconv.Itoa(z.A) + "+" + timesText(z.B)
	}
	return strconv.Itoa(z.A) + timesText(z.B)
}

// timesText is the text of so many of i, not 0, where nothing is ahead of it.
func timesText(n int) string {
	switch n {
	case 1:
		return "i"
	case -1:
		return "-i"
	}
	return strconv.Itoa(n) + "i"
}

// ReadText returns the Gauss number whose TextOf a text is, and true; the zero value and false if there is none.
func ReadText(s string) (Gauss, bool) {
	z, ok := looseRead(s)
	// looseRead takes other spellings of a number too; only the one of TextOf counts.
	if !ok || TextOf(z) != s {
		return Gauss{}, false
	}
	return z, true
}

// looseRead reads each text of TextOf, and some others, as 01 or 1i.
func looseRead(s string) (Gauss, bool) {
	ahead, withI := strings.CutSuffix(s, "i")
	if !withI {
		a, err := strconv.Atoi(s)
		return Gauss{A: a}, err == nil
	}
	cut := max(0, strings.LastIndexAny(ahead, "+-"))
	first, second := ahead[:cut], ahead[cut:]
	if first == "" {
		first = "0"
	}
	if strings.Trim(second, "+-") == "" {
		second += "1"
	}
	a, errA := strconv.Atoi(first)
	b, errB := strconv.Atoi(second)
	return Gauss{A: a, B: b}, errA == nil && errB == nil
}
