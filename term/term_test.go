package term

import (
	"math"
	"strings"
	"testing"

	"vestry/api"
)

func number(n int) api.Val {
	return api.Val{Kind: api.Num, N: n}
}

func symbol(s string) api.Val {
	return api.Val{Kind: api.Sym, S: s}
}

func con(word string, args ...api.Val) api.Val {
	return api.Val{Kind: api.Con, S: word, Args: args}
}

// nested: that many Cons within one another, with a leaf in the innermost.
func nested(cons int, leaf ...api.Val) api.Val {
	v := con("N", leaf...)
	for range cons - 1 {
		v = con("N", v)
	}
	return v
}

// ofParts: a value of just so many parts, which are spread over its Args as evenly as can be, so that it is not deep.
func ofParts(parts int) api.Val {
	if parts == 1 {
		return number(0)
	}
	v := con("P")
	rest := parts - 1
	for width := min(rest, api.MaxWidth); width > 0; width-- {
		share := rest / width
		v.Args = append(v.Args, ofParts(share))
		rest -= share
	}
	return v
}

func countParts(v api.Val) int {
	n := 1
	for _, arg := range v.Args {
		n += countParts(arg)
	}
	return n
}

func repeated(n int, v api.Val) []api.Val {
	list := make([]api.Val, n)
	for i := range list {
		list[i] = v
	}
	return list
}

// rising: values that may be, each ahead of those behind it.
func rising() []api.Val {
	return []api.Val{
		number(math.MinInt64), number(-10), number(-9), number(-1), number(0), number(1), number(9), number(10), number(math.MaxInt64),
		symbol(""), symbol("\x00"), symbol("\x00\x00"), symbol("\t"), symbol("\n"), symbol("\n\n"), symbol(" "), symbol("\""), symbol("\", \""),
		symbol("$A()"), symbol("(1)"), symbol("1"), symbol("10"), symbol("9"), symbol("?"), symbol("A"), symbol("\\"), symbol("\\\""), symbol("\\\\"), symbol("\\n"), symbol("\\t"),
		symbol("a"), symbol("aa"), symbol("aaa"), symbol("ab"), symbol("b"), symbol("n"), symbol("t"), symbol(strings.Repeat("x", api.MaxText-1)), symbol(strings.Repeat("x", api.MaxText)), symbol("é"), symbol("\xff"),
		con("A"),
		con("A", number(-1)), con("A", number(1)), con("A", number(2)), con("A", symbol("")), con("A", symbol("1, 2")), con("A", con("A")), con("A", con("A", con("A"))), con("A", con("A", number(1), number(2))), con("A", con("B")),
		con("A", number(-5), number(-5)), con("A", number(1), number(-3)), con("A", number(1), number(2)), con("A", number(1), symbol("1")), con("A", number(1), con("A")), con("A", number(2), number(-9)), con("A", symbol("1"), symbol("2")), con("A", con("A", number(1)), number(2)),
		con("A", number(0), number(0), number(0)),
		con("A", repeated(api.MaxWidth, number(-7))...),
		con("A1"), con("AA"), con("AB"), con("B"), con("B", number(1)), nested(api.MaxDeep), con("Z"), con("_"), con("_1"), con("__"), con("a"), con("aA"), con(strings.Repeat("z", api.MaxName)),
	}
}

// wrong: values that may not be, each for a reason of its own.
func wrong() []api.Val {
	inner := api.Val{Kind: 9}
	return []api.Val{
		{}, {N: 5}, {S: "a"}, {Kind: -1}, {Kind: 4}, {Kind: math.MaxInt64}, {Kind: math.MinInt64}, {Kind: 0, Args: []api.Val{number(1)}},
		{Kind: api.Num, N: 1, S: "1"}, {Kind: api.Num, S: "\x00"}, {Kind: api.Num, N: 1, Args: []api.Val{number(1)}}, {Kind: api.Num, Args: []api.Val{{}}},
		{Kind: api.Sym, N: 1}, {Kind: api.Sym, N: -1, S: "a"}, {Kind: api.Sym, S: "a", Args: []api.Val{symbol("a")}}, symbol(strings.Repeat("x", api.MaxText+1)),
		{Kind: api.Con, N: 1, S: "A"}, {Kind: api.Con, N: math.MinInt64, S: "A"},
		con(""), con("", number(1)), con("1"), con("1A"), con("A.B"), con("A B"), con("A-"), con("é"), con("Aé"), con("A\x00"), con("\xff"), con("$A"), con(" A"), con("A "), con("A@"), con("A["), con("A`"), con("A{"), con("A/"), con("A:"), con("@"), con("["), con("`"), con("{"), con(":"), con("/"),
		con(strings.Repeat("z", api.MaxName+1)), con(strings.Repeat("z", 1<<20)),
		con("A", repeated(api.MaxWidth+1, number(1))...), con("A", repeated(1<<20, number(1))...),
		con("A", inner), con("A", number(1), inner), con("A", con("A", con("A", inner))), con("A", number(1), con("1")), con("A", api.Val{}), con("A", number(1), symbol(strings.Repeat("x", api.MaxText+1))), con("A", con("B", repeated(api.MaxWidth+1, number(1))...)),
		nested(api.MaxDeep + 1), nested(api.MaxDeep+1, number(1)), con("A", number(1), nested(api.MaxDeep)), ofParts(api.MaxParts + 1), con("A", ofParts(api.MaxParts)),
	}
}

// P3.1: a value of each kind may be, and its text and order are told.
func TestRightValues(t *testing.T) {
	for i, v := range rising() {
		if !Right(v) {
			t.Errorf("value %d, %.60s: may not be", i, Text(v))
		}
	}
}

// P3.1: what may not be, for each of the reasons that there are.
func TestWrongValues(t *testing.T) {
	for i, v := range wrong() {
		if Right(v) {
			t.Errorf("wrong value %d, %.60s: may be", i, Text(v))
		}
	}
}

// P3.1, R6: an empty list of Args is none.
func TestEmptyArgs(t *testing.T) {
	for _, v := range []api.Val{number(7), symbol("a"), con("A")} {
		w := v
		w.Args = []api.Val{}
		v.Args = nil
		if !Right(v) || !Right(w) || !Same(v, w) || Order(v, w) != 0 || Text(v) != Text(w) {
			t.Errorf("%s: an empty list and nil are unlike", Text(v))
		}
	}
}

// P3.1: every byte of a word, as its first one and behind that.
func TestWordBytes(t *testing.T) {
	const first = "ABCDEFGHIJKLMNOPQRSTUVWXYZabcdefghijklmnopqrstuvwxyz_"
	const later = first + "0123456789"
	for b := range 256 {
		s := string([]byte{byte(b)})
		if Right(con(s)) != strings.Contains(first, s) {
			t.Errorf("the word %q: %v", s, Right(con(s)))
		}
		if Right(con("A"+s)) != strings.Contains(later, s) || Right(con("_"+s+"z")) != strings.Contains(later, s) {
			t.Errorf("the word of A and %q: %v", s, Right(con("A"+s)))
		}
	}
}

// P3.1: the limits, and one more of each.
func TestLimits(t *testing.T) {
	cases := []struct {
		name string
		v    api.Val
		want bool
	}{
		{"a Sym of MaxText bytes", symbol(strings.Repeat("é", api.MaxText/2)), true},
		{"a Sym of one byte more", symbol(strings.Repeat("é", api.MaxText/2) + "a"), false},
		{"a word of MaxName bytes", con(strings.Repeat("a", api.MaxName)), true},
		{"a word of one byte more", con(strings.Repeat("a", api.MaxName+1)), false},
		{"the empty word", con(""), false},
		{"MaxWidth Args", con("A", repeated(api.MaxWidth, symbol("a"))...), true},
		{"one Arg more", con("A", repeated(api.MaxWidth+1, symbol("a"))...), false},
		{"MaxDeep Cons", nested(api.MaxDeep), true},
		{"MaxDeep Cons, with a Num in the innermost", nested(api.MaxDeep, number(1)), true},
		{"MaxDeep Cons, with a Sym in the innermost", nested(api.MaxDeep, symbol("a")), true},
		{"MaxDeep Cons, with a Con in the innermost", nested(api.MaxDeep, con("A")), false},
		{"MaxDeep Cons twice, side by side", con("A", nested(api.MaxDeep-1), nested(api.MaxDeep-1)), true},
		{"one Con more in the last Arg", con("A", nested(api.MaxDeep-1), nested(api.MaxDeep)), false},
		{"MaxParts parts", ofParts(api.MaxParts), true},
		{"one part more", ofParts(api.MaxParts + 1), false},
		{"MaxParts parts but one", ofParts(api.MaxParts - 1), true},
	}
	for _, c := range cases {
		if Right(c.v) != c.want {
			t.Errorf("%s: %v", c.name, !c.want)
		}
	}
	for parts := api.MaxParts - 2; parts <= api.MaxParts+2; parts++ {
		if n := countParts(ofParts(parts)); n != parts {
			t.Errorf("ofParts(%d) has %d", parts, n)
		}
	}
}

// R1: values that hold themselves, or one part so often that they could not be gone through.
func TestEndlessValues(t *testing.T) {
	ring := con("A", number(1))
	ring.Args[0] = ring
	wide := con("A", repeated(api.MaxWidth, number(1))...)
	for i := range wide.Args {
		wide.Args[i] = wide
	}
	tower := number(1)
	for range api.MaxDeep - 1 {
		tower = con("A", repeated(api.MaxWidth, tower)...)
	}
	deep := number(1)
	for range 1 << 16 {
		deep = con("A", deep)
	}
	s := New()
	for i, v := range []api.Val{ring, wide, tower, deep} {
		if Right(v) || Text(v) != "?" || Order(v, number(0)) != -1 || Order(number(0), v) != 1 || !Same(v, ring) {
			t.Errorf("endless value %d may be", i)
		}
		if _, e := s.Put(v); e != api.ErrArg {
			t.Errorf("endless value %d: Put %v", i, e)
		}
		if _, there := s.Get(v); there {
			t.Errorf("endless value %d: Get", i)
		}
	}
}

// P3.1, P3.4: the order of every pair, in both directions; of triples it follows, since the list has them all.
func TestOrder(t *testing.T) {
	list := rising()
	for i, a := range list {
		for j, b := range list {
			want := 0
			if i < j {
				want = -1
			} else if i > j {
				want = 1
			}
			if o := Order(a, b); o != want {
				t.Errorf("Order(%.40s, %.40s): %d, want %d", Text(a), Text(b), o, want)
			}
			if Same(a, b) != (i == j) {
				t.Errorf("Same(%.40s, %.40s): %v", Text(a), Text(b), i != j)
			}
		}
	}
}

// P3.1: the values of one text are the same wherever their memory lies.
func TestSameOfCopies(t *testing.T) {
	one, two := rising(), rising()
	for i := range one {
		if Order(one[i], two[i]) != 0 || !Same(one[i], two[i]) {
			t.Errorf("%.40s: unlike its copy", Text(one[i]))
		}
	}
}

// P3.1: what may not be is ahead of all that may, and of order 0 among itself.
func TestOrderOfWrong(t *testing.T) {
	list, right := wrong(), rising()
	for i, a := range list {
		for j, b := range list {
			if Order(a, b) != 0 || !Same(a, b) {
				t.Errorf("wrong values %d and %d: %d", i, j, Order(a, b))
			}
		}
		for _, b := range right {
			if Order(a, b) != -1 || Order(b, a) != 1 || Same(a, b) || Same(b, a) {
				t.Errorf("wrong value %d and %.40s: %d, %d", i, Text(b), Order(a, b), Order(b, a))
			}
		}
	}
}

// P3.2: the texts of each kind.
func TestText(t *testing.T) {
	cases := []struct {
		v    api.Val
		want string
	}{
		{con("Node", number(1), symbol("a")), `$Node(1, "a")`},
		{number(0), "0"}, {number(-7), "-7"}, {number(math.MinInt64), "-9223372036854775808"}, {number(math.MaxInt64), "9223372036854775807"},
		{symbol(""), `""`}, {symbol("a b"), `"a b"`}, {symbol(`"`), `"\""`}, {symbol(`\`), `"\\"`}, {symbol("\n"), `"\n"`}, {symbol("\t"), `"\t"`},
		{symbol("a\"b\\c\nd\te"), `"a\"b\\c\nd\te"`}, {symbol(`\n`), `"\\n"`}, {symbol("'"), `"'"`},
		{symbol("\r\x00\x7f\x80\xff"), "\"\r\x00\x7f\x80\xff\""}, {symbol("é日"), `"é日"`},
		{con("A"), "$A()"}, {con("_a1", con("B"), con("C", number(-1))), "$_a1($B(), $C(-1))"},
		{con("A", symbol("x, y"), symbol("\n"), number(2)), `$A("x, y", "\n", 2)`},
		{con("Z", repeated(8, number(1))...), "$Z(1, 1, 1, 1, 1, 1, 1, 1)"},
		{nested(3, number(5)), "$N($N($N(5)))"},
	}
	for _, c := range cases {
		if s := Text(c.v); s != c.want {
			t.Errorf("Text: %q, want %q", s, c.want)
		}
	}
	for i, v := range wrong() {
		if s := Text(v); s != "?" {
			t.Errorf("Text of wrong value %d: %.40q", i, s)
		}
	}
}

// P3.2: every byte of a Sym stands as it is, but for the four that have signs.
func TestTextOfBytes(t *testing.T) {
	for b := range 256 {
		s := string([]byte{byte(b)})
		want := `"` + s + `"`
		switch b {
		case 34:
			want = `"\""`
		case 92:
			want = `"\\"`
		case 10:
			want = `"\n"`
		case 9:
			want = `"\t"`
		}
		if text := Text(symbol(s)); text != want {
			t.Errorf("byte %d: %q, want %q", b, text, want)
		}
	}
}

// P3.6: unlike values have unlike texts, and none is that of a wrong one.
func TestUnlikeTexts(t *testing.T) {
	seen := map[string]int{"?": -1}
	for i, v := range rising() {
		text := Text(v)
		if j, there := seen[text]; there {
			t.Errorf("values %d and %d: both %.60q", j, i, text)
		}
		seen[text] = i
	}
}

// small: all values of few parts over few leaves, so that every shape of them is there.
func small() []api.Val {
	leaves := []api.Val{number(0), number(1), symbol(""), symbol("0"), symbol(`"`), con("A"), con("B")}
	list := append([]api.Val{}, leaves...)
	for _, word := range []string{"A", "B"} {
		for _, a := range leaves {
			list = append(list, con(word, a))
			for _, b := range leaves {
				list = append(list, con(word, a, b), con(word, con(word, a), b), con(word, con("A", a, b)))
			}
		}
	}
	return list
}

// P3.4: over all small values the order turns round, and goes on; Same is as the order says, and as the texts say (P3.6).
func TestOrderOfSmallValues(t *testing.T) {
	list := append(small(), wrong()[:20]...)
	table := make([][]int, len(list))
	for i, a := range list {
		for _, b := range list {
			table[i] = append(table[i], Order(a, b))
		}
	}
	for i := range list {
		for j := range list {
			if table[i][j] != -table[j][i] {
				t.Fatalf("%s and %s: %d and %d", Text(list[i]), Text(list[j]), table[i][j], table[j][i])
			}
			if (table[i][j] == 0) != (Text(list[i]) == Text(list[j])) {
				t.Fatalf("%s and %s: order %d", Text(list[i]), Text(list[j]), table[i][j])
			}
			for k := range list {
				if table[i][j] <= 0 && table[j][k] <= 0 && table[i][k] > 0 {
					t.Fatalf("%s, %s, %s do not go on", Text(list[i]), Text(list[j]), Text(list[k]))
				}
			}
		}
	}
}

// R4: no call writes into what it was handed.
func TestNothingIsWritten(t *testing.T) {
	s := New()
	one, two := rising(), rising()
	for i := range one {
		Right(one[i])
		Order(one[i], one[(i+1)%len(one)])
		Same(one[i], one[i])
		Text(one[i])
		s.Put(one[i])
		s.Get(one[i])
	}
	for i := range one {
		if !equal(one[i], two[i]) {
			t.Errorf("%.40s was written over", Text(two[i]))
		}
	}
}

// equal holds the fields against each other, and asks nothing of the package.
func equal(a, b api.Val) bool {
	if a.Kind != b.Kind || a.N != b.N || a.S != b.S || len(a.Args) != len(b.Args) {
		return false
	}
	for i := range a.Args {
		if !equal(a.Args[i], b.Args[i]) {
			return false
		}
	}
	return true
}
