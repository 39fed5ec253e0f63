package code

import (
	"math"
	"slices"
	"strconv"
	"strings"
	"testing"

	"vestry/api"
)

// P18.1: programs that are empty, or have no relations, or no registers.
func TestLeastPrograms(t *testing.T) {
	may(t, "nothing", api.Code{}, false)
	may(t, "no Instr", program([]int{2}, 4), false)
	may(t, "an empty list of Instrs", program([]int{2}, 4, []api.Instr{}...), false)
	may(t, "stop", program(nil, 0, stop()), true)
	may(t, "stop, and an empty list of Widths", program([]int{}, 0, stop()), true)
	may(t, "jump to itself", program(nil, 0, jump(0)), true)
	may(t, "without relations", ended(nil, 1, num(1), let(0), reg(0), txt("a"), compare("!=", 0), match(0, "A/0", 2, 0)), true)
	may(t, "without registers", ended([]int{1, 0, 0}, 0, open(0, 1, 0), next(0, 0, 0), num(1), put(0), some(1, 0), clr(0), swap(1, 2), has(2, 0)), true)
	may(t, "a relation of none", ended(nil, 0, clr(0)), false)
	may(t, "a register of none", ended(nil, 0, num(1), let(0)), false)
}

// P18.1: as many relations, columns and registers as there may be, and one more.
func TestRelationsAndRegisters(t *testing.T) {
	for n, want := range map[int]bool{0: true, 1: true, 127: true, 128: true, 129: false, 256: false, 4096: false} {
		may(t, strconv.Itoa(n)+" relations", program(make([]int, n), 0, stop()), want)
	}
	for n, want := range map[int]bool{0: true, 1: true, 7: true, 8: true, 9: false, 128: false, 1 << 40: false, -1: false, math.MinInt: false, math.MaxInt: false} {
		may(t, strconv.Itoa(n)+" columns", program([]int{n}, 0, stop()), want)
		may(t, strconv.Itoa(n)+" columns of the last one", program([]int{1, 2, n}, 0, stop()), want)
		may(t, strconv.Itoa(n)+" columns of the first one", program([]int{n, 8}, 0, stop()), want)
	}
	for n, want := range map[int]bool{0: true, 1: true, 255: true, 256: true, 257: false, 1 << 16: false, -1: false, math.MinInt: false, math.MaxInt: false} {
		may(t, strconv.Itoa(n)+" registers", program(nil, n, stop()), want)
	}
	var widest []int
	for range 128 {
		widest = append(widest, 8)
	}
	may(t, "the last relation", ended(widest, 256, clr(127), open(63, 127, 0), next(63, 0, 248)), true)
	may(t, "the last register", ended(nil, 256, reg(255), let(255)), true)
}

// P18.1: as many Instrs as there may be, and one more; and what the last one is.
func TestInstrs(t *testing.T) {
	for n, want := range map[int]bool{1: true, 2: true, 4095: true, 4096: true, 4097: false, 8192: false} {
		may(t, strconv.Itoa(n)+" stops", program(nil, 0, slices.Repeat(listOf(stop()), n)...), want)
		may(t, strconv.Itoa(n)+" jumps", program(nil, 0, slices.Repeat(listOf(jump(n-1)), n)...), want)
	}
	for name, a := range alone() {
		may(t, name+" last", program(widths(), 4, a.all[:a.at+1]...), name == "stop")
		may(t, name+" ahead of a jump", program(widths(), 4, append(a.all[:len(a.all)-1], jump(0))...), true)
	}
	may(t, "jump last", program(nil, 0, stop(), jump(1)), true)
	may(t, "a value ahead of the last", program(nil, 1, num(1), stop()), false)
	may(t, "a value ahead of a last jump", program(nil, 1, num(1), jump(0)), false)
}

// numbersOf: where an instruction's numbers stand.
func numbersOf(x *api.Instr) map[string]*int {
	return map[string]*int{"A": &x.A, "B": &x.B, "C": &x.C}
}

// P18.1: numbers and texts that an Op has not are 0 and empty.
func TestNeedless(t *testing.T) {
	needless := 0
	for _, cells := range rows() {
		name := cells[0]
		for i, number := range []string{"A", "B", "C"} {
			if cells[3+i] != "-" {
				continue
			}
			for _, n := range []int{1, -1, 2, math.MinInt, math.MaxInt} {
				may(t, name+"'s needless "+number, turned(name, func(x *api.Instr) { *numbersOf(x)[number] = n }), false)
				needless++
			}
		}
		if cells[6] != "-" {
			continue
		}
		for _, s := range []string{"a", "A", "\x00", " ", "=", "+", "A/2", strings.Repeat("a", 1<<16+1)} {
			may(t, name+"'s needless text", turned(name, func(x *api.Instr) { x.S = s }), false)
			needless++
		}
	}
	if needless != 5*(3*19-29)+8*14 {
		t.Errorf("%d", needless)
	}
}

// P18.1: a number below 0 is none but that of num.
func TestBelowZero(t *testing.T) {
	for name := range alone() {
		for _, number := range []string{"A", "B", "C"} {
			for _, n := range []int{-1, -2, -64, math.MinInt, math.MinInt + 1} {
				want := name == "num" && number == "A"
				may(t, name+"'s "+number+" "+strconv.Itoa(n), turned(name, func(x *api.Instr) { *numbersOf(x)[number] = n }), want)
			}
		}
	}
}

// P18.1: a number far above all that it may be.
func TestFarAbove(t *testing.T) {
	for name := range alone() {
		for _, number := range []string{"A", "B", "C"} {
			for _, n := range []int{300, 5000, 1 << 31, 1 << 32, 1<<32 + 1, 1 << 62, math.MaxInt - 1, math.MaxInt} {
				want := name == "num" && number == "A"
				may(t, name+"'s "+number+" "+strconv.Itoa(n), turned(name, func(x *api.Instr) { *numbersOf(x)[number] = n }), want)
			}
		}
	}
}

// P18.1: a num's number is any, and a text any that is not too long.
func TestNumbersAndTexts(t *testing.T) {
	for _, n := range []int{0, 1, -1, 63, 64, -64, -65, 1 << 53, -1 << 53, math.MaxInt, math.MinInt} {
		may(t, strconv.Itoa(n), ended(nil, 1, num(n), let(0)), true)
	}
	for _, s := range []string{"", "a", "A/2", "\x00", "\xff\xfe", "é", "a\nb", strings.Repeat("\xff", 127), strings.Repeat("a", 128), strings.Repeat("\x80", 1<<16-1), strings.Repeat("a", 1<<16)} {
		may(t, "a text of "+strconv.Itoa(len(s)), ended(nil, 1, txt(s), let(0)), true)
	}
	for _, size := range []int{1<<16 + 1, 1<<16 + 2, 1 << 20} {
		may(t, "a text of "+strconv.Itoa(size), ended(nil, 1, txt(strings.Repeat("a", size)), let(0)), false)
	}
}

// P18.1: signs of operators and comparisons.
func TestSigns(t *testing.T) {
	signs := strings.Fields("+ - * / % = != < <= > >= == => =< <> ! ** // & | ^ ++ neg not and , .")
	signs = append(signs, "", " ", "+ ", " +", "=\n", "\x00", "a", "A", "<=\x00", strings.Repeat("+", 1<<16))
	for _, sign := range signs {
		may(t, "op "+sign[:min(len(sign), 9)], turned("op", func(x *api.Instr) { x.S = sign }), slices.Contains(strings.Fields("+ - * / %"), sign))
		may(t, "cmp "+sign[:min(len(sign), 9)], turned("cmp", func(x *api.Instr) { x.S = sign }), slices.Contains(strings.Fields("= != < <= > >="), sign))
	}
}

// named: texts, and whether they are words.
func named() map[string]bool {
	return map[string]bool{
		"A": true, "a": true, "_": true, "Node": true, "a1": true, "_1": true, "A_b_2": true, "not": true, "count": true,
		strings.Repeat("A", 63): true, strings.Repeat("z", 64): true, strings.Repeat("A", 65): false, strings.Repeat("A", 1<<16): false, strings.Repeat("A", 1<<17): false,
		"": false, " ": false, "A ": false, " A": false, "1": false, "1A": false, "a.b": false, "A\n": false, "A-b": false, "é": false, "Aé": false, "A\x00": false, "\xff": false, "A/": false, "$A": false, "A?": false,
	}
}

// P18.1: words of constructors.
func TestWords(t *testing.T) {
	for s, want := range named() {
		may(t, "con "+s[:min(len(s), 70)], turned("con", func(x *api.Instr) { x.S = s }), want)
		may(t, "match "+s[:min(len(s), 70)], turned("match", func(x *api.Instr) { x.S = s + "/2" }), want)
		may(t, "match "+s[:min(len(s), 70)]+" without a digit", turned("match", func(x *api.Instr) { x.S = s }), false)
	}
	for _, s := range []string{"A2", "A/", "/2", "/", "A//2", "A/2/2", "A/2 ", "A /2", "A/ 2", "A/02", "A/22", "A/+2", "A/-2", "A/x", "A/\x00", "A/\xff", "A/½", "A\\2", "A/2\n", "2/A", "A:2"} {
		may(t, "match "+s, turned("match", func(x *api.Instr) { x.S = s }), false)
	}
}

// P18.1: a match with each digit, and with what is none; and how many registers come behind C.
func TestMatches(t *testing.T) {
	for _, digit := range "/0123456789:;aA " {
		s := "A/" + string(digit)
		may(t, s, ended(nil, 20, match(0, s, 0, 1)), digit >= '0' && digit <= '8')
	}
	for digit := range 9 {
		s := "A/" + strconv.Itoa(digit)
		for regs := 1; regs < 12; regs++ {
			for from := range regs + 2 {
				may(t, s+" from "+strconv.Itoa(from), ended(nil, regs, match(0, s, 0, from)), from+digit <= regs)
			}
		}
		may(t, s+" to the last one", ended(nil, 256, match(255, s, 0, 256-digit)), true)
		may(t, s+" one behind the last one", ended(nil, 256, match(255, s, 0, 257-digit)), false)
		may(t, s+" of none", ended(nil, 256, match(256, s, 0, 0)), false)
		may(t, s+" far away", ended(nil, 256, match(0, s, 0, math.MaxInt-digit)), false)
	}
}

// P18.1: a con of 0 to MaxWidth, and of one more.
func TestCons(t *testing.T) {
	for args := range 12 {
		all := append(slices.Repeat(listOf(num(1)), args), con("A", args, args+2), let(0), stop())
		may(t, "con of "+strconv.Itoa(args), program(nil, 1, all...), args <= 8)
	}
	// What lies there is not enough for it.
	for args := 1; args <= 9; args++ {
		all := append(slices.Repeat(listOf(num(1)), args-1), con("A", args, 0), let(0), stop())
		may(t, "con of one more than "+strconv.Itoa(args-1), program(nil, 1, all...), false)
	}
}

// P18.1: registers up to the last one, and one behind it.
func TestRegisters(t *testing.T) {
	for name := range strings.FieldsSeq("reg let match") {
		for n, want := range map[int]bool{0: true, 3: true, 4: false, 255: false, 256: false} {
			may(t, name+" "+strconv.Itoa(n), turned(name, func(x *api.Instr) { x.A = n }), want)
		}
	}
}

// P18.1: relations up to the last one, and one behind it.
func TestRelations(t *testing.T) {
	for rel := range 7 {
		there := rel < 5
		width := 0
		if there {
			width = widths()[rel]
		}
		for _, op := range []api.Instr{has(rel, 0), not(rel, 0), put(rel)} {
			may(t, op.Op+" "+strconv.Itoa(rel), ended(widths(), 4, append(slices.Repeat(listOf(num(1)), width), op)...), there)
			may(t, op.Op+" without values "+strconv.Itoa(rel), ended(widths(), 4, op), rel == 0)
		}
		for _, op := range []api.Instr{some(rel, 0), clr(rel), open(0, rel, 0)} {
			may(t, op.Op+" "+strconv.Itoa(rel), ended(widths(), 4, op), there)
		}
	}
}

// P18.1: swap and merge are of two relations of one width.
func TestOneWidth(t *testing.T) {
	for a := range 7 {
		for b := range 7 {
			want := a < 5 && b < 5 && widths()[a] == widths()[b]
			may(t, "swap", ended(widths(), 4, swap(a, b)), want)
			may(t, "merge", ended(widths(), 4, merge(a, b)), want)
		}
	}
}

// P18.1: slots, and sets of columns.
func TestOpens(t *testing.T) {
	for slot, want := range map[int]bool{0: true, 1: true, 62: true, 63: true, 64: false, 65: false, 128: false, 256: false} {
		may(t, "open "+strconv.Itoa(slot), ended(widths(), 4, open(slot, 2, 0)), want)
		may(t, "open and next "+strconv.Itoa(slot), ended(widths(), 4, open(slot, 2, 0), next(slot, 0, 0)), want)
	}
	for rel, width := range widths() {
		for _, set := range []int{0, 1, 2, 3, 4, 5, 6, 7, 127, 128, 200, 255, 256, 257, 511, 1 << 32} {
			bits := strings.Count(strconv.FormatInt(int64(set), 2), "1")
			all := append(slices.Repeat(listOf(num(1)), bits), open(0, rel, set))
			may(t, strconv.Itoa(set)+" of "+strconv.Itoa(width), ended(widths(), 4, all...), set < 1<<width)
			may(t, strconv.Itoa(set)+" and a value too many", ended(widths(), 4, append(listOf(num(1)), all...)...), false)
			if bits > 0 {
				may(t, strconv.Itoa(set)+" and one too few", ended(widths(), 4, all[1:]...), false)
			}
		}
	}
}

// P18.1: a next asks the last open of its slot that stands ahead of it in the list.
func TestNexts(t *testing.T) {
	for name, c := range map[string]struct {
		all  []api.Instr
		want bool
	}{
		"no open":                             {listOf(next(0, 0, 0)), false},
		"an open of another slot":             {listOf(open(1, 2, 0), next(0, 0, 0)), false},
		"an open behind it":                   {listOf(next(0, 0, 0), open(0, 2, 0)), false},
		"an open behind it that jumps to it":  {listOf(jump(3), next(0, 0, 0), jump(5), open(0, 2, 0), jump(1)), false},
		"an open right ahead":                 {listOf(open(0, 2, 0), next(0, 0, 0)), true},
		"an open far ahead":                   {listOf(open(0, 2, 0), num(1), let(0), clr(2), jump(4), next(0, 0, 2)), true},
		"an open that is jumped over":         {listOf(jump(2), open(0, 2, 0), next(0, 0, 0)), true},
		"an open behind a stop":               {listOf(open(0, 2, 0), stop(), next(0, 0, 0)), true},
		"several nexts of one open":           {listOf(open(0, 2, 0), next(0, 0, 0), next(0, 0, 1), next(0, 0, 2)), true},
		"registers of the relation":           {listOf(open(0, 4, 0), next(0, 0, 1)), true},
		"one register too many":               {listOf(open(0, 4, 0), next(0, 0, 2)), false},
		"two opens, the wider one last":       {listOf(open(0, 1, 0), open(0, 4, 0), next(0, 0, 2)), false},
		"two opens, the wider one first":      {listOf(open(0, 4, 0), open(0, 1, 0), next(0, 0, 2)), true},
		"two opens, the wider one behind":     {listOf(open(0, 1, 0), next(0, 0, 8), open(0, 4, 0)), true},
		"the narrower one behind":             {listOf(open(0, 4, 0), next(0, 0, 8), open(0, 1, 0)), false},
		"two opens, a next each":              {listOf(open(0, 4, 0), next(0, 0, 1), open(0, 1, 0), next(0, 0, 8)), true},
		"two opens, a next each, turned":      {listOf(open(0, 1, 0), next(0, 0, 8), open(0, 4, 0), next(0, 0, 8)), false},
		"a wider one of another slot between": {listOf(open(0, 1, 0), open(1, 4, 0), next(0, 0, 8)), true},
		"a narrow one of another slot":        {listOf(open(0, 4, 0), open(1, 1, 0), next(0, 0, 8)), false},
		"a relation without columns":          {listOf(open(0, 0, 0), next(0, 0, 8)), true},
		"a relation without columns, at 9":    {listOf(open(0, 0, 0), next(0, 0, 9)), true},
		"a relation without columns, at 10":   {listOf(open(0, 0, 0), next(0, 0, 10)), false},
		"relation 0, then another one":        {listOf(open(0, 2, 0), open(0, 0, 0), next(0, 0, 9)), true},
		"slot 63":                             {listOf(open(63, 4, 0), next(63, 0, 1)), true},
		"slot 64":                             {listOf(open(63, 4, 0), next(64, 0, 1)), false},
		"slot 62":                             {listOf(open(63, 4, 0), next(62, 0, 1)), false},
	} {
		may(t, name, ended(widths(), 9, c.all...), c.want)
	}
	for slot := range 64 {
		var all []api.Instr
		for other := range 64 {
			if other != slot {
				all = append(all, open(other, 4, 0))
			}
		}
		may(t, "all slots but one", ended(widths(), 9, append(slices.Clone(all), next(slot, 0, 0))...), false)
		may(t, "all slots", ended(widths(), 9, append(all, open(slot, 1, 0), next(slot, 0, 8))...), true)
	}
	for rel, width := range widths() {
		for regs := range 12 {
			for from := range 14 {
				may(t, "a next from "+strconv.Itoa(from), ended(widths(), regs, open(5, rel, 0), next(5, 0, from)), from+width <= regs)
			}
		}
	}
}
