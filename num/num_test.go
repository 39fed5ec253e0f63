package num

import (
	"math"
	"math/big"
	"regexp"
	"strings"
	"testing"

	"vestry/api"
)

const (
	least    = math.MinInt64
	greatest = math.MaxInt64
)

// numbers: small ones, those about each power of 2, and those about the root of 2^63.
func numbers() []int {
	var list []int
	for n := -12; n <= 12; n++ {
		list = append(list, n)
	}
	for k := 4; k < 63; k++ {
		for d := -1; d <= 1; d++ {
			list = append(list, 1<<k+d, -(1<<k)+d)
		}
	}
	for d := 0; d < 4; d++ {
		list = append(list, least+d, greatest-d, least/2+d, greatest/2-d, least/3+d, greatest/3-d)
		list = append(list, 3037000498+d, -3037000498-d)
	}
	return list
}

// exact: what the sign means, with numbers of any size.
func exact(sign string, a, b int) (int, api.Errno) {
	x, y, z := big.NewInt(int64(a)), big.NewInt(int64(b)), new(big.Int)
	if (sign == "/" || sign == "%") && b == 0 {
		return 0, api.ErrZero
	}
	switch sign {
	case "+":
		z.Add(x, y)
	case "-":
		z.Sub(x, y)
	case "*":
		z.Mul(x, y)
	case "/":
		z.Quo(x, y)
	case "%":
		z.Rem(x, y)
	}
	if !z.IsInt64() {
		return 0, api.ErrOver
	}
	return int(z.Int64()), api.OK
}

func calls() map[string]func(a, b int) (int, api.Errno) {
	return map[string]func(a, b int) (int, api.Errno){"+": Add, "-": Sub, "*": Mul, "/": Div, "%": Rem}
}

// P1.1, and the first half of P1.2: the calls and the signs do the same, at all pairs.
func TestOperatorsAreExact(t *testing.T) {
	for sign, call := range calls() {
		for _, a := range numbers() {
			for _, b := range numbers() {
				want, why := exact(sign, a, b)
				if n, e := call(a, b); n != want || e != why {
					t.Fatalf("%d %s %d: %d, %v; want %d, %v", a, sign, b, n, e, want, why)
				}
				if n, e := Op(sign, a, b); n != want || e != why {
					t.Fatalf("Op(%q, %d, %d): %d, %v; want %d, %v", sign, a, b, n, e, want, why)
				}
			}
		}
	}
}

// P1.1: the edges, written out.
func TestOperatorEdges(t *testing.T) {
	for _, c := range []struct {
		sign    string
		a, b, n int
		e       api.Errno
	}{
		{"+", greatest, 1, 0, api.ErrOver},
		{"+", least, -1, 0, api.ErrOver},
		{"+", least, least, 0, api.ErrOver},
		{"+", greatest, least, -1, api.OK},
		{"+", greatest, 0, greatest, api.OK},
		{"+", least, 0, least, api.OK},
		{"-", 0, least, 0, api.ErrOver},
		{"-", -1, least, greatest, api.OK},
		{"-", least, 1, 0, api.ErrOver},
		{"-", least, least, 0, api.OK},
		{"-", greatest, -1, 0, api.ErrOver},
		{"-", -1, greatest, least, api.OK},
		{"-", -2, greatest, 0, api.ErrOver},
		{"*", least, -1, 0, api.ErrOver},
		{"*", -1, least, 0, api.ErrOver},
		{"*", least, 1, least, api.OK},
		{"*", least, 0, 0, api.OK},
		{"*", 0, least, 0, api.OK},
		{"*", greatest, -1, -greatest, api.OK},
		{"*", 1 << 32, 1 << 31, 0, api.ErrOver},
		{"*", 1 << 32, -(1 << 31), least, api.OK},
		{"*", 1 << 32, 1 << 32, 0, api.ErrOver},
		{"*", least, least, 0, api.ErrOver},
		{"/", least, -1, 0, api.ErrOver},
		{"/", least, 1, least, api.OK},
		{"/", least, least, 1, api.OK},
		{"/", greatest, least, 0, api.OK},
		{"/", -7, 2, -3, api.OK},
		{"/", 7, -2, -3, api.OK},
		{"/", -7, -2, 3, api.OK},
		{"/", 1, 0, 0, api.ErrZero},
		{"/", 0, 0, 0, api.ErrZero},
		{"/", least, 0, 0, api.ErrZero},
		{"%", least, -1, 0, api.OK},
		{"%", -7, 2, -1, api.OK},
		{"%", 7, -2, 1, api.OK},
		{"%", -7, -2, -1, api.OK},
		{"%", greatest, least, greatest, api.OK},
		{"%", 1, 0, 0, api.ErrZero},
		{"%", 0, 0, 0, api.ErrZero},
		{"%", least, 0, 0, api.ErrZero},
	} {
		if n, e := calls()[c.sign](c.a, c.b); n != c.n || e != c.e {
			t.Errorf("%d %s %d: %d, %v; want %d, %v", c.a, c.sign, c.b, n, e, c.n, c.e)
		}
	}
}

// P1.2: each comparison holds by whether a is below, the same or above.
func TestComparisons(t *testing.T) {
	for _, c := range []struct {
		sign               string
		below, same, above bool
	}{
		{"=", false, true, false},
		{"!=", true, false, true},
		{"<", true, false, false},
		{"<=", true, true, false},
		{">", false, false, true},
		{">=", false, true, true},
	} {
		for _, a := range numbers() {
			for _, b := range numbers() {
				want := [3]bool{c.below, c.same, c.above}[big.NewInt(int64(a)).Cmp(big.NewInt(int64(b)))+1]
				if holds, e := Cmp(c.sign, a, b); holds != want || e != api.OK {
					t.Fatalf("Cmp(%q, %d, %d): %v, %v; want %v", c.sign, a, b, holds, e, want)
				}
			}
		}
	}
}

// P1.2: wrong signs. ErrArg comes ahead of ErrZero and ErrOver, and nothing else is answered.
func TestWrongSigns(t *testing.T) {
	neither := []string{"", " ", "+ ", " +", "++", "**", "//", "=+", "==", "=<", "=>", "<>", "!", "!==", " =", "= ", "<<", "^", "&", "add", "\x00", "+\x00", "=\x00", "\xff", "−", "≤"}
	pairs := [][2]int{{1, 1}, {1, 0}, {0, 1}, {greatest, 1}, {least, -1}, {least, 0}}
	for _, p := range pairs {
		for _, sign := range append([]string{"=", "!=", "<", "<=", ">", ">="}, neither...) {
			if n, e := Op(sign, p[0], p[1]); n != 0 || e != api.ErrArg {
				t.Errorf("Op(%q, %d, %d): %d, %v", sign, p[0], p[1], n, e)
			}
		}
		for _, sign := range append([]string{"+", "-", "*", "/", "%"}, neither...) {
			if holds, e := Cmp(sign, p[0], p[1]); holds || e != api.ErrArg {
				t.Errorf("Cmp(%q, %d, %d): %v, %v", sign, p[0], p[1], holds, e)
			}
		}
	}
}

// P1.3: texts of numbers.
func TestText(t *testing.T) {
	for _, c := range []struct {
		n int
		s string
	}{
		{0, "0"},
		{1, "1"},
		{-1, "-1"},
		{10, "10"},
		{-100, "-100"},
		{greatest, "9223372036854775807"},
		{least, "-9223372036854775808"},
	} {
		if s := Text(c.n); s != c.s {
			t.Errorf("Text(%d): %q", c.n, s)
		}
	}
}

// P1.3: texts at the edges of form and size.
func TestParseEdges(t *testing.T) {
	zeros := strings.Repeat("0", 100)
	for _, c := range []struct {
		s string
		n int
		e api.Errno
	}{
		{"0", 0, api.OK},
		{"7", 7, api.OK},
		{"-7", -7, api.OK},
		{"10", 10, api.OK},
		{"9223372036854775807", greatest, api.OK},
		{"-9223372036854775808", least, api.OK},
		{"9223372036854775808", 0, api.ErrOver},
		{"-9223372036854775809", 0, api.ErrOver},
		{"9223372036854775810", 0, api.ErrOver},
		{"10000000000000000000", 0, api.ErrOver},
		{"18446744073709551616", 0, api.ErrOver},
		{"-18446744073709551616", 0, api.ErrOver},
		{"18446744073709551617", 0, api.ErrOver},
		{"1" + zeros, 0, api.ErrOver},
		{"-1" + zeros, 0, api.ErrOver},
		{"1" + zeros + "x", 0, api.ErrForm},
		{"9223372036854775808 ", 0, api.ErrForm},
		{"0" + "9223372036854775808", 0, api.ErrForm},
		{zeros, 0, api.ErrForm},
		{"", 0, api.ErrForm},
		{"-", 0, api.ErrForm},
		{"--", 0, api.ErrForm},
		{"--1", 0, api.ErrForm},
		{"-0", 0, api.ErrForm},
		{"00", 0, api.ErrForm},
		{"007", 0, api.ErrForm},
		{"-007", 0, api.ErrForm},
		{"+1", 0, api.ErrForm},
		{"+0", 0, api.ErrForm},
		{"1-", 0, api.ErrForm},
		{"1-1", 0, api.ErrForm},
		{" 1", 0, api.ErrForm},
		{"1 ", 0, api.ErrForm},
		{"- 1", 0, api.ErrForm},
		{"1\n", 0, api.ErrForm},
		{"1\x00", 0, api.ErrForm},
		{"1_000", 0, api.ErrForm},
		{"0x1", 0, api.ErrForm},
		{"1e3", 0, api.ErrForm},
		{"1.0", 0, api.ErrForm},
		{"1/", 0, api.ErrForm},
		{"1:", 0, api.ErrForm},
		{"\xff", 0, api.ErrForm},
		{"١", 0, api.ErrForm},
	} {
		if n, e := Parse(c.s); n != c.n || e != c.e {
			t.Errorf("Parse(%q): %d, %v; want %d, %v", c.s, n, e, c.n, c.e)
		}
	}
}

// P1.3: of all short texts over some bytes just those of the right form are taken.
func TestParseForm(t *testing.T) {
	form := regexp.MustCompile(`^(0|-?[1-9][0-9]*)\z`)
	var try func(s string)
	try = func(s string) {
		n, e := Parse(s)
		if form.MatchString(s) {
			want, _ := new(big.Int).SetString(s, 10)
			if e != api.OK || int64(n) != want.Int64() {
				t.Fatalf("Parse(%q): %d, %v", s, n, e)
			}
		} else if n != 0 || e != api.ErrForm {
			t.Fatalf("Parse(%q): %d, %v", s, n, e)
		}
		if len(s) == 4 {
			return
		}
		for _, b := range []byte("-+019/:_. x\x00\xff") {
			try(s + string([]byte{b}))
		}
	}
	try("")
}

// P1.3: just past either end, and just within.
func TestParseAboutTheEnds(t *testing.T) {
	for _, end := range []int64{least, greatest} {
		for d := int64(-1000); d <= 1000; d++ {
			want := new(big.Int).Add(big.NewInt(end), big.NewInt(d))
			n, e := Parse(want.String())
			if want.IsInt64() && (e != api.OK || int64(n) != want.Int64()) {
				t.Fatalf("Parse(%q): %d, %v", want, n, e)
			}
			if !want.IsInt64() && (e != api.ErrOver || n != 0) {
				t.Fatalf("Parse(%q): %d, %v", want, n, e)
			}
		}
	}
}

// P1.4: sums and products turn round.
func TestTurnRound(t *testing.T) {
	for _, a := range numbers() {
		for _, b := range numbers() {
			s, e := Add(a, b)
			if r, f := Add(b, a); r != s || f != e {
				t.Fatalf("%d + %d: %d, %v and %d, %v", a, b, s, e, r, f)
			}
			p, e := Mul(a, b)
			if r, f := Mul(b, a); r != p || f != e {
				t.Fatalf("%d * %d: %d, %v and %d, %v", a, b, p, e, r, f)
			}
		}
	}
}

// P1.4: a sum less a part is the other part.
func TestSumLessPart(t *testing.T) {
	for _, a := range numbers() {
		for _, b := range numbers() {
			s, e := Add(a, b)
			if e != api.OK {
				continue
			}
			x, e := Sub(s, a)
			y, f := Sub(s, b)
			if x != b || y != a || e != api.OK || f != api.OK {
				t.Fatalf("%d + %d is %d; less a part: %d, %v and %d, %v", a, b, s, x, e, y, f)
			}
		}
	}
}

// P1.4: quotient and rest make the number again.
func TestQuotientAndRest(t *testing.T) {
	for _, a := range numbers() {
		for _, b := range numbers() {
			q, e := Div(a, b)
			if e != api.OK {
				continue
			}
			r, e := Rem(a, b)
			p, f := Mul(q, b)
			n, g := Add(p, r)
			if n != a || e != api.OK || f != api.OK || g != api.OK {
				t.Fatalf("%d by %d: %d and %d make %d (%v, %v, %v)", a, b, q, r, n, e, f, g)
			}
		}
	}
}

// P1.3, P1.5: a number's text is its digits, and Parse of it is the number.
func TestParseOfText(t *testing.T) {
	list := numbers()
	for n := -2000; n <= 2000; n++ {
		list = append(list, n)
	}
	for _, n := range list {
		s := Text(n)
		if s != big.NewInt(int64(n)).String() {
			t.Fatalf("Text(%d): %q", n, s)
		}
		if m, e := Parse(s); m != n || e != api.OK {
			t.Fatalf("Parse(%q): %d, %v", s, m, e)
		}
	}
}
