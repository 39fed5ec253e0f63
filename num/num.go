// Package num is layer 1: numbers of 64 bits: see shared/doc/01-num.md.
package num

import (
	"math"
	"strconv"
	"strings"

	"vestry/api"
)

// operator is an operator's sign and what it does.
type operator struct {
	sign string
	do   func(a, b int) (int, api.Errno)
}

// comparison is a comparison's sign and when it holds.
type comparison struct {
	sign  string
	holds func(a, b int) bool
}

func operators() [5]operator {
	return [5]operator{
		{"+", Add},
		{"-", Sub},
		{"*", Mul},
		{"/", Div},
		{"%", Rem},
	}
}

func comparisons() [6]comparison {
	return [6]comparison{
		{"=", func(a, b int) bool { return a == b }},
		{"!=", func(a, b int) bool { return a != b }},
		{"<", func(a, b int) bool { return a < b }},
		{"<=", func(a, b int) bool { return a <= b }},
		{">", func(a, b int) bool { return a > b }},
		{">=", func(a, b int) bool { return a >= b }},
	}
}

// Add is a sum.
func Add(a, b int) (int, api.Errno) {
	sum := a + b
	// A sum that wrapped round lies on the wrong side of a.
	if (sum > a) != (b > 0) {
		return 0, api.ErrOver
	}
	return sum, api.OK
}

// Sub is a difference.
func Sub(a, b int) (int, api.Errno) {
	difference := a - b
	// A difference that wrapped round lies on the wrong side of a.
	if (difference < a) != (b > 0) {
		return 0, api.ErrOver
	}
	return difference, api.OK
}

// Mul is a product.
func Mul(a, b int) (int, api.Errno) {
	if b == 0 {
		return 0, api.OK
	}
	// Dividing back by -1 would wrap round just as the product did.
	if b == -1 {
		return Sub(0, a)
	}
	product := a * b
	if product/b != a {
		return 0, api.ErrOver
	}
	return product, api.OK
}

// Div is a quotient.
func Div(a, b int) (int, api.Errno) {
	if b == 0 {
		return 0, api.ErrZero
	}
	// The only quotient that leaves the 64 bits.
	if a == math.MinInt64 && b == -1 {
		return 0, api.ErrOver
	}
	return a / b, api.OK
}

// Rem is what a division leaves.
func Rem(a, b int) (int, api.Errno) {
	if b == 0 {
		return 0, api.ErrZero
	}
	return a % b, api.OK
}

// Op is an operator by its sign.
func Op(op string, a, b int) (int, api.Errno) {
	for _, o := range operators() {
		if o.sign == op {
			return o.do(a, b)
		}
	}
	return 0, api.ErrArg
}

// Cmp is a comparison by its sign.
func Cmp(op string, a, b int) (bool, api.Errno) {
	for _, c := range comparisons() {
		if c.sign == op {
			return c.holds(a, b), api.OK
		}
	}
	return false, api.ErrArg
}

// Text is a number's text.
func Text(n int) string {
	return strconv.Itoa(n)
}

// Parse is the number of a text.
func Parse(s string) (int, api.Errno) {
	if !isNumberText(s) {
		return 0, api.ErrForm
	}
	n, err := strconv.Atoi(s)
	// The form is right, so that only the size can be wrong.
	if err != nil {
		return 0, api.ErrOver
	}
	return n, api.OK
}

func isNumberText(s string) bool {
	if s == "0" {
		return true
	}
	digits := strings.TrimPrefix(s, "-")
	return digits != "" && digits[0] != '0' && allDigits(digits)
}

func allDigits(s string) bool {
	for i := range len(s) {
		if s[i] < '0' || s[i] > '9' {
			return false
		}
	}
	return true
}
