package ram

import (
	"math"
	"slices"
	"strings"
	"testing"

	"vestry/api"
	"vestry/term"
)

// runs: a program comes to these tuples in so many steps, and needs just these.
func runs(t *testing.T, m api.Ram, in, want string, steps int) {
	t.Helper()
	runsOver(t, m, rows(in), want, steps)
}

func runsOver(t *testing.T, m api.Ram, in [][][]api.Val, want string, steps int) {
	t.Helper()
	for _, fuel := range []int{steps, steps + 1, api.MaxFuel, math.MaxInt} {
		if out, n, e := Run(m, in, fuel); told(out) != want || n != steps || e != api.OK {
			t.Errorf("%.300s\n%d fuel: %.300s, %d steps, %v; want %.300s, %d steps", progText(m), fuel, told(out), n, e, want, steps)
		}
	}
	fails(t, m, in, steps-1, steps-1, api.ErrFuel)
}

// fails: a program comes to an error in so many steps.
func fails(t *testing.T, m api.Ram, in [][][]api.Val, fuel, steps int, want api.Errno) {
	t.Helper()
	if out, n, e := Run(m, in, fuel); out != nil || n != steps || e != want {
		t.Errorf("%.300s\n%d fuel: %.300s, %d steps, %v; want %d, %v", progText(m), fuel, told(out), n, e, steps, want)
	}
}

// faults: a program faults, in so many steps, and needs just these.
func faults(t *testing.T, m api.Ram, in [][][]api.Val, steps int) {
	t.Helper()
	fails(t, m, in, steps, steps, api.ErrFault)
	fails(t, m, in, math.MaxInt, steps, api.ErrFault)
	fails(t, m, in, steps-1, steps-1, api.ErrFuel)
}

// P16.2: what each Kind of node does, alone.
func TestAlone(t *testing.T) {
	five := exprsOf(numeral(5))
	mark := putOf(1, numeral(1))
	for name, c := range map[string]struct {
		main     api.RNode
		in, want string
		steps    int
	}{
		"seq without Kids":       {seqOf(), "5 |", "5 | ", 1},
		"seq":                    {seqOf(putOf(0, numeral(3)), putOf(0, texted("a")), putOf(1, numeral(2))), "|", "3; a | 2", 4},
		"put":                    {putOf(0, numeral(5)), "4; 6 |", "4; 5; 6 | ", 1},
		"put of what is there":   {putOf(0, numeral(5)), "5 |", "5 | ", 1},
		"scan":                   {scanOf(0, 1, nil, putOf(1, reg(1))), "7; 4; b |", "4; 7; b | 4; 7; b", 7},
		"scan of nothing":        {scanOf(0, 1, nil, putOf(1, reg(1))), "| 3", " | 3", 1},
		"scan without Kids":      {scanOf(0, 0, nil), "7; 4 |", "4; 7 | ", 3},
		"scan with a key":        {scanOf(0, 0, keysOf(key(0, numeral(4))), putOf(1, reg(0))), "7; 4; b |", "4; 7; b | 4", 3},
		"scan, nothing like it":  {scanOf(0, 0, keysOf(key(0, texted("4"))), putOf(1, reg(0))), "7; 4; b |", "4; 7; b | ", 1},
		"has":                    {hasOf(0, five, mark), "4; 5 |", "4; 5 | 1", 2},
		"has it not":             {hasOf(0, five, mark), "4; 6 | 5", "4; 6 | 5", 1},
		"not, and has it":        {notOf(0, five, mark), "4; 5 |", "4; 5 | ", 1},
		"not":                    {notOf(0, five, mark), "4; 6 | 5", "4; 6 | 1; 5", 2},
		"not without Kids":       {notOf(0, five), "4; 6 |", "4; 6 | ", 1},
		"cmp":                    {cmpOf("<", numeral(1), numeral(2), mark, mark), "|", " | 1", 3},
		"cmp that does not hold": {cmpOf(">", numeral(1), numeral(2), mark, mark), "|", " | ", 1},
		"let":                    {letOf(2, op("+", numeral(1), numeral(2)), putOf(0, reg(2))), "|", "3 | ", 2},
		"let without Kids":       {letOf(2, numeral(3)), "|", " | ", 1},
		"loop without Rels":      {loopOf(nil, mark), "7 |", "7 | 1", 3},
		"loop without Kids":      {loopOf([]int{1}), "7 |", "7 | ", 2},
		"loop that ends":         {loopOf([]int{0}, clearOf(0), mark), "7 |", " | 1", 4},
		"loop of two rounds":     {loopOf([]int{1}, swapOf(0, 1)), "7 |", "7 | ", 5},
		"loop of three rounds":   {loopOf([]int{2, 2, 1}, swapOf(0, 1), swapOf(1, 2)), "7 | |", "7 |  | ", 10},
		"clear":                  {clearOf(0), "7; 8 | 4", " | 4", 1},
		"clear of nothing":       {clearOf(0), "| 4", " | 4", 1},
		"swap":                   {swapOf(0, 1), "7; 8 | 4", "4 | 7; 8", 1},
		"swap with itself":       {swapOf(0, 0), "7; 8 | 4", "7; 8 | 4", 1},
		"merge":                  {mergeOf(0, 1), "2; 4; 6 | 1; 4; 5; 7", "1; 2; 4; 5; 6; 7 | 1; 4; 5; 7", 1},
		"merge the other way":    {mergeOf(1, 0), "2; 4; 6 | 1; 4; 5; 7", "2; 4; 6 | 1; 2; 4; 5; 6; 7", 1},
		"merge with itself":      {mergeOf(0, 0), "2; 4 | 1", "2; 4 | 1", 1},
		"merge of nothing":       {mergeOf(0, 1), "2; 4 |", "2; 4 | ", 1},
		"merge into nothing":     {mergeOf(1, 0), "2; 4 |", "2; 4 | 2; 4", 1},
	} {
		t.Run(name, func(t *testing.T) {
			widths := slices.Repeat([]int{1}, strings.Count(c.in, "|")+1)
			runs(t, program(3, c.main, widths...), c.in, c.want, c.steps)
		})
	}
}

// P16.2: RMatch looks at a register's word and how many Args it has.
func TestMatch(t *testing.T) {
	in := [][][]api.Val{{
		{numOf(3)}, {symOf("A")}, {conOf("A")}, {conOf("A", numOf(4))}, {conOf("A", symOf("x"), conOf("A"))}, {conOf("B", numOf(5), numOf(6))},
	}, nil}
	const all = "3; A; $A(); $A(4); $A(\"x\", $A()); $B(5, 6) | "
	for _, c := range []struct {
		word  string
		other int
		want  string
		steps int
	}{
		{"A", 0, "8 9", 1},
		{"A", 1, "4 9", 1},
		{"A", 2, "x $A()", 1},
		{"A", 3, "", 0},
		{"B", 2, "5 6", 1},
		{"B", 0, "", 0},
		{"C", 0, "", 0},
	} {
		match := matchOf(0, c.word, c.other, 1, putOf(1, reg(1), reg(2)))
		m := program(4, scanOf(0, 0, nil, letOf(1, numeral(8), letOf(2, numeral(9), match))), 1, 2)
		runsOver(t, m, in, all+c.want, 1+6*4+c.steps)
	}
	own := program(2, scanOf(0, 1, nil, matchOf(1, "B", 2, 0, putOf(1, reg(1), reg(0)))), 1, 2)
	runsOver(t, own, in, all+"6 5", 1+6*2+1)
}

// P16.2: of a tuple without columns there is one at most.
func TestWidthOfNone(t *testing.T) {
	m := program(0, scanOf(0, 0, nil, putOf(1)), 0, 0)
	runs(t, m, "|", " | ", 1)
	runs(t, m, "() |", "() | ()", 3)
	runs(t, m, "(); (); () | ()", "() | ()", 3)
	runs(t, program(0, seqOf(notOf(0, nil, putOf(0), hasOf(0, nil, putOf(1)))), 0, 0), "|", "() | ()", 5)
	runs(t, program(0, seqOf(mergeOf(0, 1), swapOf(0, 1), clearOf(0)), 0, 0), "| ()", " | ()", 4)
	if out, steps, e := Run(program(0, seqOf()), nil, 1); len(out) != 0 || steps != 1 || e != api.OK {
		t.Errorf("without relations: %v, %d, %v", out, steps, e)
	}
}

// P16.2: a scan's columns are as all keys say.
func TestKeys(t *testing.T) {
	const in = "1 2 3; 1 2 4; 1 3 3; 2 2 3; 1 a 3; a 2 3 | "
	const all = "1 2 3; 1 2 4; 1 3 3; 1 a 3; 2 2 3; a 2 3 | "
	for _, c := range []struct {
		keys  []api.RKey
		want  string
		steps int
	}{
		{nil, "1 2 3; 1 2 4; 1 3 3; 1 a 3; 2 2 3; a 2 3", 6},
		{keysOf(key(0, numeral(1))), "1 2 3; 1 2 4; 1 3 3; 1 a 3", 4},
		{keysOf(key(1, texted("a"))), "1 a 3", 1},
		{keysOf(key(2, op("+", numeral(2), numeral(2)))), "1 2 4", 1},
		{keysOf(key(0, numeral(1)), key(2, numeral(3))), "1 2 3; 1 3 3; 1 a 3", 3},
		{keysOf(key(0, numeral(1)), key(1, reg(0)), key(2, numeral(3))), "1 2 3", 1},
		{keysOf(key(0, built("A"))), "", 0},
	} {
		m := program(4, letOf(0, numeral(2), scanOf(0, 1, c.keys, putOf(1, reg(1), reg(2), reg(3)))), 3, 3)
		runs(t, m, in, all+c.want, 2+2*c.steps)
	}
}

// P16.2: keys are by layer 3's Same.
func TestKeysOfConstructors(t *testing.T) {
	m := program(2, scanOf(0, 0, keysOf(key(0, built("A", numeral(1), texted("a")))), putOf(1, reg(1))), 2, 1)
	in := [][][]api.Val{{
		{conOf("A", numOf(1), symOf("a")), numOf(1)},
		{conOf("A", numOf(1), symOf("b")), numOf(2)},
		{conOf("A", numOf(1)), numOf(3)},
		{conOf("B", numOf(1), symOf("a")), numOf(4)},
		{conOf("A", numOf(1), symOf("a")), symOf("a")},
	}, nil}
	out, steps, e := Run(m, in, 5)
	if told(out[1:]) != "1; a" || steps != 5 || e != api.OK {
		t.Errorf("%s, %d, %v", told(out), steps, e)
	}
}

// P16.2: a scan goes over the tuples as they are when it begins, whatever its Kids do to the relation.
func TestScanOfWhatTurns(t *testing.T) {
	next := putOf(0, op("+", reg(0), numeral(1)))
	seen := putOf(1, reg(0))
	for name, c := range map[string]struct {
		kids  []api.RNode
		want  string
		steps int
	}{
		"put":               {[]api.RNode{seen, next}, "1; 2; 3; 5; 6 | 1; 2; 5 | 8; 9", 10},
		"clear":             {[]api.RNode{seen, clearOf(0)}, " | 1; 2; 5 | 8; 9", 10},
		"clear and put":     {[]api.RNode{seen, clearOf(0), next}, "6 | 1; 2; 5 | 8; 9", 13},
		"swap":              {[]api.RNode{seen, swapOf(0, 2)}, "8; 9 | 1; 2; 5 | 1; 2; 5", 10},
		"swap and put":      {[]api.RNode{seen, swapOf(0, 2), next}, "2; 6; 8; 9 | 1; 2; 5 | 1; 2; 3; 5", 13},
		"merge":             {[]api.RNode{seen, mergeOf(0, 2)}, "1; 2; 5; 8; 9 | 1; 2; 5 | 8; 9", 10},
		"merge and swap":    {[]api.RNode{seen, mergeOf(2, 0), swapOf(0, 2), clearOf(2)}, "1; 2; 5; 8; 9 | 1; 2; 5 | ", 16},
		"scan in it":        {[]api.RNode{scanOf(0, 1, nil, seen, putOf(0, op("*", reg(1), numeral(2))))}, "1; 2; 4; 5; 8; 10; 16; 20; 40 | 1; 2; 5 | 8; 9", 1 + 3 + (1 + 3*3) + (1 + 5*3) + (1 + 7*3)},
		"scan of the other": {[]api.RNode{scanOf(1, 1, nil, putOf(1, op("+", reg(1), numeral(1)))), seen}, "1; 2; 5 | 1; 2; 3; 5 | 8; 9", 1 + 3 + 2 + (2 + 1*2) + (2 + 2*2)},
	} {
		t.Run(name, func(t *testing.T) {
			runs(t, program(2, scanOf(0, 0, nil, c.kids...), 1, 1, 1), "5; 1; 2 | | 8; 9", c.want, c.steps)
		})
	}
}

// P16.2: a key's value is found once, when the scan begins, though its Kids set the register anew.
func TestKeyOnce(t *testing.T) {
	inner := scanOf(0, 1, keysOf(key(0, reg(0))), letOf(0, reg(2), putOf(1, reg(0))))
	m := program(3, letOf(0, numeral(1), inner), 2, 1)
	runs(t, m, "1 2; 1 3; 2 5; 3 6 |", "1 2; 1 3; 2 5; 3 6 | 2; 3", 2+2*3)
}

// P16.2: a register is what it was set to last; a scan sets its own for each tuple.
func TestRegistersStay(t *testing.T) {
	m := program(2, letOf(0, numeral(1), seqOf(
		putOf(0, reg(0)),
		letOf(0, numeral(2), putOf(0, reg(0))),
		letOf(1, op("*", reg(0), numeral(10)), putOf(0, reg(1))),
		matchOf(0, "A", 0, 0),
		putOf(0, op("+", reg(0), numeral(5))),
	)), 1)
	runs(t, m, "", "1; 2; 7; 20", 9)
	again := program(1, scanOf(0, 0, nil, putOf(1, reg(0)), letOf(0, texted("x"), putOf(1, reg(0)))), 1, 1)
	runs(t, again, "3; 4 |", "3; 4 | 3; 4; x", 1+2*4)
	left := program(2, letOf(0, numeral(0), seqOf(scanOf(0, 0, nil), putOf(1, reg(0)))), 1, 1)
	runs(t, left, "3; 4 |", "3; 4 | 4", 6)
	runs(t, left, "|", " | 0", 4)
	parts := program(3, letOf(0, built("A", numeral(4), numeral(5)), seqOf(matchOf(0, "A", 2, 0), putOf(0, reg(0)))), 1)
	runs(t, parts, "", "4", 4)
}

// closure: the pairs that edges lead to, round by round.
func closure() api.Ram {
	return program(4, seqOf(
		mergeOf(1, 0), mergeOf(2, 0),
		loopOf([]int{2},
			scanOf(2, 0, nil, scanOf(0, 2, nil, cmpOf("=", reg(1), reg(2), notOf(1, exprsOf(reg(0), reg(3)), putOf(3, reg(0), reg(3)))))),
			clearOf(2), swapOf(2, 3), mergeOf(1, 2),
		),
	), 2, 2, 2, 2)
}

// P16.2: a loop of many rounds.
func TestClosure(t *testing.T) {
	m := closure()
	out, _, e := Run(m, rows("2 3; 3 4; 1 2; 4 1; 7 8 | | |"), api.MaxFuel)
	if e != api.OK || told(out[1:]) != "1 1; 1 2; 1 3; 1 4; 2 1; 2 2; 2 3; 2 4; 3 1; 3 2; 3 3; 3 4; 4 1; 4 2; 4 3; 4 4; 7 8 |  | " {
		t.Errorf("%s, %v", told(out), e)
	}
	runs(t, m, "| | |", " |  |  | ", 1+2+1+1+1+3)
	// Two rounds: in the first one a tuple comes, in the second one none.
	runs(t, m, "1 2; 2 3 | | |", "1 2; 2 3 | 1 2; 1 3; 2 3 |  | ", (1+2+1)+(1+(1+2*(1+1+2*2))+2+3)+(1+(1+1*(1+1+2*2))+3))
}

// P16.2: loops within one another; a loop that does not end.
func TestLoops(t *testing.T) {
	inner := loopOf([]int{1}, scanOf(1, 0, nil, putOf(2, reg(0))), clearOf(1))
	m := program(1, loopOf([]int{0, 1}, swapOf(0, 1), inner), 1, 1, 1)
	runs(t, m, "1; 2 | 3 |", " |  | 1; 2; 3", 1+2*(1+1+1+1)+(1+1*2+1)+(1+2*2+1))
	endless := program(0, loopOf([]int{0}), 1)
	for _, fuel := range []int{1, 2, 3, 1000, api.MaxFuel - 1, api.MaxFuel} {
		fails(t, endless, rows("1"), fuel, fuel, api.ErrFuel)
	}
	for _, fuel := range []int{api.MaxFuel + 1, 2 * api.MaxFuel, math.MaxInt} {
		fails(t, endless, rows("1"), fuel, api.MaxFuel, api.ErrFuel)
	}
}

// P16.2: fuel of 0 and below is none; more than MaxFuel is MaxFuel.
func TestFuel(t *testing.T) {
	for _, fuel := range []int{0, -1, -7, math.MinInt} {
		fails(t, program(0, seqOf()), nil, fuel, 0, api.ErrFuel)
		fails(t, example(), rows("|"), fuel, 0, api.ErrFuel)
		fails(t, example(), nil, fuel, 0, api.ErrArg)
	}
	// One step for the outermost node, and two for each pair of nodes, round by round.
	m := program(0, loopOf([]int{0}, clearOf(1), seqOf(), putOf(1, numeral(1))), 1, 1)
	for fuel := range 30 {
		fails(t, m, rows("1 |"), fuel, fuel, api.ErrFuel)
	}
	// 2^17 steps, just MaxFuel, and one more: two for the outer nodes, 511 for each of 256 tuples, one for each node that is left.
	const left = api.MaxFuel - 2 - 256*511
	program := func(more int) api.Ram {
		scan := scanOf(0, 0, nil, slices.Repeat([]api.RNode{seqOf()}, 510)...)
		return program(1, seqOf(append(slices.Repeat([]api.RNode{seqOf()}, left+more), scan)...), 1)
	}
	var tuples [][]api.Val
	for i := range 256 {
		tuples = append(tuples, []api.Val{numOf(i)})
	}
	in := [][][]api.Val{tuples}
	runsSteps(t, program(-1), in, api.MaxFuel-1)
	runsSteps(t, program(0), in, api.MaxFuel)
	fails(t, program(1), in, math.MaxInt, api.MaxFuel, api.ErrFuel)
	fails(t, program(0), in, api.MaxFuel-1, api.MaxFuel-1, api.ErrFuel)
}

func runsSteps(t *testing.T, m api.Ram, in [][][]api.Val, steps int) {
	t.Helper()
	if _, n, e := Run(m, in, math.MaxInt); n != steps || e != api.OK {
		t.Errorf("%d steps, %v; want %d", n, e, steps)
	}
}

// P16.2: tuples come each once, and are told rising, by layer 3's Order, column by column.
func TestOrder(t *testing.T) {
	values := []api.Val{
		conOf("B"), symOf("b"), numOf(3), conOf("A", numOf(2)), numOf(-4), symOf(""), conOf("A", numOf(1), numOf(0)), symOf("a"), conOf("A", symOf("a")), conOf("AA"), numOf(math.MinInt64), numOf(math.MaxInt64), symOf("B"),
	}
	var tuples [][]api.Val
	for _, a := range values {
		for _, b := range values {
			tuples = append(tuples, []api.Val{a, b}, []api.Val{a, b})
		}
	}
	put := program(4, scanOf(0, 2, nil, putOf(1, reg(3), reg(2))), 2, 2)
	out, steps, e := Run(put, [][][]api.Val{tuples, nil}, math.MaxInt)
	if e != api.OK || steps != 1+2*len(values)*len(values) || told(out[:1]) != told(out[1:]) {
		t.Fatalf("%d, %v, %s", steps, e, told(out))
	}
	slices.SortFunc(values, term.Order)
	for i, a := range values {
		for j, b := range values {
			if got := out[0][i*len(values)+j]; !term.Same(got[0], a) || !term.Same(got[1], b) {
				t.Fatalf("%d, %d: %s", i, j, told([][][]api.Val{{got}}))
			}
		}
	}
	if got := told([][][]api.Val{out[0][:3], out[0][len(out[0])-1:]}); got != "-9223372036854775808 -9223372036854775808; -9223372036854775808 -4; -9223372036854775808 3 | $B() $B()" {
		t.Error(got)
	}
}

// P16.2: ErrArg.
func TestRunErrArg(t *testing.T) {
	m := program(1, seqOf(), 1, 2)
	many := func(n int) [][]api.Val { return slices.Repeat([][]api.Val{{numOf(1)}}, n) }
	runsSteps(t, m, [][][]api.Val{nil, nil}, 1)
	runsSteps(t, m, [][][]api.Val{many(api.MaxFacts), {}}, 1)
	deep, wide := conOf("A"), conOf("A")
	for range api.MaxDeep {
		deep = conOf("A", deep)
	}
	for range 10 {
		wide = conOf("A", wide, wide)
	}
	ring := []api.Val{{Kind: api.Con, S: "A"}}
	ring[0].Args = ring
	wrong := []api.Val{
		{}, {Kind: 4}, {Kind: -1}, {Kind: api.Num, S: "a"}, {Kind: api.Num, Args: many(1)[0]}, {Kind: api.Sym, N: 1}, {Kind: api.Con}, conOf("1"), conOf("A", api.Val{}),
		symOf(strings.Repeat("a", api.MaxText+1)), conOf("A", slices.Repeat(many(1)[0], 9)...), deep, wide, ring[0],
	}
	for _, v := range wrong {
		fails(t, m, [][][]api.Val{nil, {{numOf(1), numOf(2)}, {numOf(1), v}}}, 9, 0, api.ErrArg)
		fails(t, m, [][][]api.Val{{{v}}, nil}, math.MinInt, 0, api.ErrArg)
	}
	for _, in := range [][][][]api.Val{
		nil, {}, {nil}, {nil, nil, nil},
		{many(api.MaxFacts + 1), nil},
		{{{}}, nil}, {{nil}, nil}, {nil, many(1)}, {many(1), many(1)}, {{{numOf(1), numOf(2)}}, nil},
		{nil, {{numOf(1), numOf(2)}, {numOf(1), numOf(2), numOf(3)}}},
	} {
		fails(t, m, in, 9, 0, api.ErrArg)
		fails(t, m, in, 0, 0, api.ErrArg)
	}
	fails(t, program(1, api.RNode{}, 1, 2), [][][]api.Val{nil, nil}, 9, 0, api.ErrArg)
	fails(t, program(1, seqOf(), 1, 9), [][][]api.Val{nil, nil}, 9, 0, api.ErrArg)
	fails(t, program(1, putOf(0, reg(0)), 1, 2), [][][]api.Val{nil, nil}, 9, 0, api.ErrArg)
	fails(t, program(0, seqOf()), [][][]api.Val{nil}, 9, 0, api.ErrArg)
	fails(t, program(0, seqOf(), 0), [][][]api.Val{slices.Repeat([][]api.Val{nil}, api.MaxFacts+1)}, 9, 0, api.ErrArg)
	runsOver(t, program(0, seqOf(), 0), [][][]api.Val{slices.Repeat([][]api.Val{nil}, api.MaxFacts)}, "()", 1)
}

// P16.2: values at the edges of what may be are handed in and come out.
func TestGreatValues(t *testing.T) {
	deep, wide := conOf("A"), conOf("A")
	for range api.MaxDeep - 1 {
		deep = conOf("A", deep)
	}
	for range 9 {
		wide = conOf("A", wide, wide)
	}
	wide = conOf("B", wide)
	long := symOf(strings.Repeat("a", api.MaxText))
	in := [][][]api.Val{{{deep}, {wide}, {long}, {numOf(math.MinInt64)}}, nil}
	m := program(1, scanOf(0, 0, nil, putOf(1, reg(0))), 1, 1)
	out, steps, e := Run(m, in, 9)
	if e != api.OK || steps != 9 || len(out) != 2 || told(out[:1]) != told(out[1:]) {
		t.Fatalf("%d, %v", steps, e)
	}
	for i, v := range []api.Val{numOf(math.MinInt64), long, deep, wide} {
		if !term.Same(out[0][i][0], v) {
			t.Errorf("%.80s", term.Text(out[0][i][0]))
		}
	}
}
