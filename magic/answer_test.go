package magic

import (
	"math"
	"slices"
	"testing"

	"vestry/api"
)

func numeral(n int) api.Val { return api.Val{Kind: api.Num, N: n} }

func symbol(s string) api.Val { return api.Val{Kind: api.Sym, S: s} }

func made(s string, args ...api.Val) api.Val { return api.Val{Kind: api.Con, S: s, Args: args} }

// table: a table of rows, each with a height and a rule of its own.
func table(rel string, rows ...[]api.Val) api.Table {
	t := api.Table{Rel: rel}
	for i, args := range rows {
		t.Rows = append(t.Rows, api.Row{Args: args, Height: 10 + i, Rule: i - 1})
	}
	return t
}

// rows: some of a table's rows, under a name.
func rows(rel string, t api.Table, which ...int) api.Table {
	some := api.Table{Rel: rel}
	for _, i := range which {
		some.Rows = append(some.Rows, t.Rows[i])
	}
	return some
}

// P15.2: the rows that have the values of a question stay, in order, with their heights and rules, under the question's name.
func TestAnswer(t *testing.T) {
	leaf := made("Leaf")
	all := table("other",
		[]api.Val{numeral(1), numeral(2)},
		[]api.Val{numeral(1), symbol("a")},
		[]api.Val{symbol("a"), numeral(2)},
		[]api.Val{symbol("1"), leaf},
		[]api.Val{numeral(-1), made("a", numeral(1), leaf)},
		[]api.Val{symbol(""), numeral(0)},
		[]api.Val{numeral(1), numeral(2)},
		[]api.Val{numeral(2), numeral(1)},
	)
	for text, want := range map[string][]int{
		"p(x, y)": {0, 1, 2, 3, 4, 5, 6, 7}, "p(_, _)": {0, 1, 2, 3, 4, 5, 6, 7}, "p(_, y)": {0, 1, 2, 3, 4, 5, 6, 7},
		"p(1, x)": {0, 1, 6}, "p(1, _)": {0, 1, 6}, "p(x, 2)": {0, 2, 6}, "p(1, 2)": {0, 6}, "p(2, 1)": {7}, "p(-1, x)": {4}, "p(x, 0)": {5}, "p(0, x)": nil, "p(3, x)": nil,
		`p("a", x)`: {2}, `p(x, "a")`: {1}, `p("1", _)`: {3}, `p("", x)`: {5}, `p(x, "")`: nil, `p("a", 2)`: {2}, `p("a", 1)`: nil, `p(1, "a")`: {1}, `p(x, "Leaf")`: nil,
		"p()": nil, "p(x)": nil, "p(1)": nil, "p(x, y, z)": nil, "p(1, 2, _)": nil,
		"p(x, x)": {0, 1, 2, 3, 4, 5, 6, 7}, "p($Leaf(), $Leaf())": {0, 1, 2, 3, 4, 5, 6, 7}, "p(1 + 1, 2)": {0, 2, 6},
	} {
		if got := Answer(atom(t, text), all); !equal(got, rows("p", all, want...)) {
			t.Errorf("%s: %+v", text, got)
		}
	}
}

// P15.2: rows of another width go, whatever stands in the others.
func TestAnswerWidths(t *testing.T) {
	one, two := numeral(1), numeral(2)
	all := table("p", nil, []api.Val{one}, []api.Val{one, two}, []api.Val{}, []api.Val{one, two, one}, []api.Val{two}, slices.Repeat([]api.Val{one}, 20))
	for text, want := range map[string][]int{
		"p()": {0, 3}, "p(x)": {1, 5}, "p(1)": {1}, "p(2)": {5}, "p(_, x)": {2}, "p(1, x)": {2}, "p(2, x)": nil, "p(x, y, z)": {4}, "p(_, _, 2)": nil, "p(_, _, 1)": {4}, "p(1, 1, 1, 1)": nil,
	} {
		if got := Answer(atom(t, text), all); !equal(got, rows("p", all, want...)) {
			t.Errorf("%s: %+v", text, got)
		}
	}
}

// P15.2: a table without rows, and a question of nothing.
func TestAnswerEmpty(t *testing.T) {
	for _, none := range []api.Table{{}, {Rel: "q"}, {Rel: "p", Rows: []api.Row{}}} {
		for _, text := range []string{"p()", "p(1, x)", "p(_)"} {
			if got := Answer(atom(t, text), none); got.Rel != "p" || len(got.Rows) != 0 {
				t.Errorf("%s: %+v", text, got)
			}
		}
		if got := Answer(api.Atom{}, none); got.Rel != "" || len(got.Rows) != 0 {
			t.Errorf("of nothing: %+v", got)
		}
	}
	all := table("p", nil, []api.Val{{}})
	if got := Answer(api.Atom{}, all); !equal(got, rows("", all, 0)) {
		t.Errorf("of nothing: %+v", got)
	}
	if got := Answer(api.Atom{Args: []api.Expr{{}}}, all); !equal(got, rows("", all, 1)) {
		t.Errorf("of an Arg that is none: %+v", got)
	}
}

// P15.2: the greatest numbers and texts of any bytes; what is no value is none that is asked for, and stays where none is.
func TestAnswerOdd(t *testing.T) {
	long := string(make([]byte, 1<<17))
	all := table("p",
		[]api.Val{numeral(math.MinInt)},
		[]api.Val{numeral(math.MaxInt)},
		[]api.Val{symbol(long)},
		[]api.Val{symbol(long[1:])},
		[]api.Val{symbol("\xff\x00")},
		[]api.Val{{Kind: api.Num, N: 1, S: "a"}},
		[]api.Val{{Kind: api.Num, N: 1, Args: []api.Val{numeral(1)}}},
		[]api.Val{{Kind: api.Num, N: 1, Args: []api.Val{}}},
		[]api.Val{{Kind: api.Sym, N: 1, S: "a"}},
		[]api.Val{{Kind: api.Sym, S: "a", Args: []api.Val{numeral(1)}}},
		[]api.Val{{Kind: api.Sym, S: "a", Args: []api.Val{}}},
		[]api.Val{{N: 1, S: "a"}},
		[]api.Val{{Kind: api.Con, N: 1, S: "a"}},
		[]api.Val{{Kind: -7, N: 1, S: "a"}},
	)
	number := func(n int) api.Expr { return api.Expr{Kind: api.ENum, N: n, S: "b", At: 3} }
	text := func(s string) api.Expr { return api.Expr{Kind: api.EText, S: s, N: 3} }
	for _, c := range []struct {
		arg  api.Expr
		want []int
	}{
		{number(math.MinInt), []int{0}}, {number(math.MaxInt), []int{1}}, {number(1), []int{7}}, {number(0), nil},
		{text(long), []int{2}}, {text(long[1:]), []int{3}}, {text("\xff\x00"), []int{4}}, {text("a"), []int{10}}, {text(""), nil},
		{api.Expr{Kind: api.EAny}, []int{0, 1, 2, 3, 4, 5, 6, 7, 8, 9, 10, 11, 12, 13}},
		{api.Expr{Kind: 99, N: 1, S: "a"}, []int{0, 1, 2, 3, 4, 5, 6, 7, 8, 9, 10, 11, 12, 13}},
	} {
		if got := Answer(api.Atom{Rel: "q", Args: []api.Expr{c.arg}}, all); !equal(got, rows("q", all, c.want...)) {
			t.Errorf("%d %.9q: %d rows", c.arg.N, c.arg.S, len(got.Rows))
		}
	}
}

// R1: a value that holds itself does not keep an answer from coming, in a row that goes, or in one that stays.
func TestAnswerOfARing(t *testing.T) {
	ring := []api.Val{made("R"), made("R"), numeral(7)}
	ring[0].Args, ring[1].Args = ring, ring[1:]
	all := table("p", []api.Val{ring[0], numeral(1)}, []api.Val{ring[1], numeral(2)}, ring)
	for text, want := range map[string]int{"p(x, 1)": 1, "p(x, y)": 2, "p(1, y)": 0, "p(x, y, z)": 1, "p(x)": 0} {
		if got := Answer(atom(t, text), all); len(got.Rows) != want {
			t.Errorf("%s: %d rows", text, len(got.Rows))
		}
	}
}
