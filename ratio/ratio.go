// Package ratio calculates with exact rational numbers: see shared/doc/01-ratio.md.
package ratio

import (
	"cmp"
	"math/bits"
	"strconv"
	"strings"

	"estoppel/api"
)

// Valid reports whether a ratio is valid: its denominator is positive, numerator and denominator have no common divisor, and both are within their limits.
func Valid(a api.Ratio) bool {
	if a.Den < 1 || a.Den > api.MaxDen || magnitude(a.Num) > api.MaxNum {
		return false
	}
	return divisor(magnitude(a.Num), magnitude(a.Den)) == 1
}

// Make returns num / den in lowest terms.
func Make(num, den int) (api.Ratio, api.Errno) {
	if den == 0 {
		return api.Ratio{}, api.ErrArg
	}
	above, below := magnitude(num), magnitude(den)
	common := divisor(above, below)
	above, below = above/common, below/common
	if above > api.MaxNum || below > api.MaxDen {
		return api.Ratio{}, api.ErrRange
	}
	result := api.Ratio{Num: int(above), Den: int(below)}
	if (num < 0) != (den < 0) {
		result.Num = -result.Num
	}
	return result, api.OK
}

// Add returns a + b.
func Add(a, b api.Ratio) (api.Ratio, api.Errno) {
	return checked(a, b, func() (api.Ratio, api.Errno) {
		return Make(a.Num*b.Den+b.Num*a.Den, a.Den*b.Den)
	})
}

// Sub returns a - b.
func Sub(a, b api.Ratio) (api.Ratio, api.Errno) {
	return checked(a, b, func() (api.Ratio, api.Errno) {
		return Make(a.Num*b.Den-b.Num*a.Den, a.Den*b.Den)
	})
}

// Mul returns a * b.
func Mul(a, b api.Ratio) (api.Ratio, api.Errno) {
	return checked(a, b, func() (api.Ratio, api.Errno) {
		// The product of two numerators can exceed 64 bits although the result is in range, so they are exchanged and shortened first. Both exchanged ratios are in range.
		first, _ := Make(b.Num, a.Den)
		second, _ := Make(a.Num, b.Den)
		high, low := bits.Mul64(magnitude(first.Num), magnitude(second.Num))
		if high > 0 || low > api.MaxNum {
			return api.Ratio{}, api.ErrRange
		}
		return Make(first.Num*second.Num, first.Den*second.Den)
	})
}

// Div returns a / b.
func Div(a, b api.Ratio) (api.Ratio, api.Errno) {
	return checked(a, b, func() (api.Ratio, api.Errno) {
		return Make(a.Num*b.Den, a.Den*b.Num)
	})
}

// Cmp compares two ratios: -1, 0 or 1.
func Cmp(a, b api.Ratio) int {
	if !Valid(a) || !Valid(b) {
		return 0
	}
	return cmp.Compare(a.Num*b.Den, b.Num*a.Den)
}

// Floor returns the greatest integer that is not greater than a.
func Floor(a api.Ratio) int {
	if !Valid(a) {
		return 0
	}
	whole, _ := divide(a.Num, a.Den)
	return whole
}

// Round returns the multiple of 1 / parts that is nearest to a; of two, the even one.
func Round(a api.Ratio, parts int) (api.Ratio, api.Errno) {
	if !Valid(a) || parts < 1 || parts > api.MaxDen {
		return api.Ratio{}, api.ErrArg
	}
	whole, rest := divide(a.Num*parts, a.Den)
	half := cmp.Compare(2*rest, a.Den)
	if half > 0 || half == 0 && whole%2 != 0 {
		whole++
	}
	return Make(whole, parts)
}

// Text returns the text of a ratio.
func Text(a api.Ratio) string {
	if !Valid(a) {
		return ""
	}
	if a.Den == 1 {
		return strconv.Itoa(a.Num)
	}
	return strconv.Itoa(a.Num) + "/" + strconv.Itoa(a.Den)
}

// Parse returns the ratio with a text.
func Parse(text string) (api.Ratio, api.Errno) {
	above, below, fraction := strings.Cut(text, "/")
	if !fraction {
		below = "1"
	}
	num, wrongNum := strconv.Atoi(above)
	den, wrongDen := strconv.Atoi(below)
	if wrongNum != nil || wrongDen != nil {
		return api.Ratio{}, api.ErrNumber
	}
	// Atoi accepts signs and zeros that no text of a ratio has, so only the text of the result itself is accepted.
	result := api.Ratio{Num: num, Den: den}
	if !Valid(result) || Text(result) != text {
		return api.Ratio{}, api.ErrNumber
	}
	return result, api.OK
}

// checked returns the result of an operation on a and b, which it executes only if both are valid.
func checked(a, b api.Ratio, operation func() (api.Ratio, api.Errno)) (api.Ratio, api.Errno) {
	if !Valid(a) || !Valid(b) {
		return api.Ratio{}, api.ErrArg
	}
	return operation()
}

// divisor returns the greatest common divisor of all numbers; 0 if all of them are 0.
func divisor(numbers ...uint64) uint64 {
	common := uint64(0)
	for _, number := range numbers {
		for number != 0 {
			common, number = number, common%number
		}
	}
	return common
}

// magnitude returns the absolute value of an integer, which for the least one is no value of its own type.
func magnitude[T ~int | ~int64](number T) uint64 {
	if number < 0 {
		return -uint64(number)
	}
	return uint64(number)
}

// divide returns num / den rounded down, and the rest, which is never negative; den is positive.
func divide(num, den int) (int, int) {
	whole, rest := num/den, num%den
	if rest < 0 {
		return whole - 1, rest + den
	}
	return whole, rest
}
