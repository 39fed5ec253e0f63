package code

import (
	"math"
	"slices"
	"strconv"
	"strings"
	"testing"

	"vestry/api"
)

func num(n int) api.Instr                   { return api.Instr{Op: "num", A: n} }
func txt(s string) api.Instr                { return api.Instr{Op: "text", S: s} }
func reg(r int) api.Instr                   { return api.Instr{Op: "reg", A: r} }
func opr(sign string, at int) api.Instr     { return api.Instr{Op: "op", S: sign, B: at} }
func con(s string, n, at int) api.Instr     { return api.Instr{Op: "con", A: n, B: at, S: s} }
func let(r int) api.Instr                   { return api.Instr{Op: "let", A: r} }
func compare(sign string, at int) api.Instr { return api.Instr{Op: "cmp", S: sign, B: at} }
func open(slot, rel, cols int) api.Instr    { return api.Instr{Op: "open", A: slot, B: rel, C: cols} }
func next(slot, at, from int) api.Instr     { return api.Instr{Op: "next", A: slot, B: at, C: from} }
func has(rel, at int) api.Instr             { return api.Instr{Op: "has", A: rel, B: at} }
func not(rel, at int) api.Instr             { return api.Instr{Op: "not", A: rel, B: at} }
func put(rel int) api.Instr                 { return api.Instr{Op: "put", A: rel} }
func match(r int, s string, a, f int) api.Instr {
	return api.Instr{Op: "match", A: r, B: a, C: f, S: s}
}
func some(rel, at int) api.Instr { return api.Instr{Op: "some", A: rel, B: at} }
func jump(at int) api.Instr      { return api.Instr{Op: "jump", A: at} }
func clr(rel int) api.Instr      { return api.Instr{Op: "clear", A: rel} }
func swap(a, b int) api.Instr    { return api.Instr{Op: "swap", A: a, B: b} }
func merge(a, b int) api.Instr   { return api.Instr{Op: "merge", A: a, B: b} }
func stop() api.Instr            { return api.Instr{Op: "stop"} }

func listOf(all ...api.Instr) []api.Instr { return all }

func program(widths []int, regs int, all ...api.Instr) api.Code {
	return api.Code{Widths: widths, Regs: regs, Instrs: all}
}

// ended: a program of these, and a stop.
func ended(widths []int, regs int, all ...api.Instr) api.Code {
	return program(widths, regs, append(slices.Clone(all), stop())...)
}

// told: a program as text.
func told(c api.Code) string {
	var b strings.Builder
	for _, width := range c.Widths {
		b.WriteString(strconv.Itoa(width) + " ")
	}
	b.WriteString("| " + strconv.Itoa(c.Regs) + " |")
	for _, x := range c.Instrs {
		b.WriteString(" " + x.Op)
		for _, n := range []int{x.A, x.B, x.C} {
			b.WriteString(" " + strconv.Itoa(n))
		}
		b.WriteString(" " + strconv.Quote(x.S[:min(len(x.S), 40)]) + ";")
	}
	return b.String()
}

// may: whether a program may be, and that of one that may the bytes are its own, and of one that may not there are none.
func may(t *testing.T, name string, c api.Code, want bool) {
	t.Helper()
	if got := Check(c); got != want {
		t.Errorf("%s: %v, want %v", name, got, want)
	}
	b, e := Encode(c)
	if !want {
		if b != nil || e != api.ErrCode {
			t.Errorf("%s: %d bytes, %v", name, len(b), e)
		}
		return
	}
	if e != api.OK {
		t.Fatalf("%s: %v", name, e)
	}
	if twin, f := Decode(b); f != (api.Fault{}) || !Same(twin, c) {
		t.Errorf("%s: %v, %s", name, f, told(twin))
	}
}

// fails: bytes that are no program's.
func fails(t *testing.T, name string, b string, at int) {
	t.Helper()
	c, f := Decode([]byte(b))
	if f != (api.Fault{Why: api.ErrCode, At: at}) || c.Widths != nil || c.Regs != 0 || c.Instrs != nil {
		t.Errorf("%s: %v at %d, want %d; %s", name, f.Why, f.At, at, told(c))
	}
}

// The example of the chapter.
func TestExample(t *testing.T) {
	c := program(nil, 0, stop())
	b, e := Encode(c)
	if want := "VB1\x00\x00\x01\x12\x00\x00\x00\x00"; string(b) != want || e != api.OK || !Check(c) {
		t.Errorf("%q, %v", b, e)
	}
	if twin, f := Decode(b); !Same(twin, c) || f != (api.Fault{}) {
		t.Errorf("%v, %s", f, told(twin))
	}
}

// closure: the pairs that a relation's pairs lead to: a program with most Ops.
func closure() api.Code {
	return program([]int{2, 2, 2, 2}, 4,
		open(0, 0, 0), next(0, 6, 0), reg(0), reg(1), put(1), jump(1),
		merge(2, 1),
		open(0, 2, 0), next(0, 24, 0), reg(1), open(1, 0, 1), next(1, 8, 2), reg(0), reg(3), not(1, 11), reg(2), reg(1), compare("=", 11), reg(0), reg(3), put(3), jump(11),
		stop(), stop(),
		clr(2), merge(1, 3), swap(2, 3), some(2, 7),
		num(1), num(2), opr("+", 34), txt("a"), con("Pair", 2, 34), let(0),
		match(0, "Pair/2", 38, 2), reg(2), reg(3), has(0, 38), stop())
}

// P18.1, P18.4: a program with each Op, and its bytes, of which each is told.
func TestEachOpAmongOthers(t *testing.T) {
	c := closure()
	may(t, "closure", c, true)
	for name := range strings.FieldsSeq("num text reg op con let cmp open next has not put match some jump clear swap merge stop") {
		if !slices.ContainsFunc(c.Instrs, func(x api.Instr) bool { return x.Op == name }) {
			t.Errorf("no %s", name)
		}
	}
	b, _ := Encode(c)
	if want := "VB1\x04\x02\x02\x02\x02\x04\x27" +
		"\x07\x00\x00\x00\x00" + "\x08\x00\x0c\x00\x00" + "\x02\x00\x00\x00\x00" + "\x02\x02\x00\x00\x00" + "\x0b\x02\x00\x00\x00" + "\x0e\x02\x00\x00\x00"; !strings.HasPrefix(string(b), want) {
		t.Errorf("%q", b)
	}
	if want := "\x0c\x00\x4c\x04\x06Pair/2" + "\x02\x04\x00\x00\x00" + "\x02\x06\x00\x00\x00" + "\x09\x00\x4c\x00\x00" + "\x12\x00\x00\x00\x00"; !strings.HasSuffix(string(b), want) {
		t.Errorf("%q", b)
	}
}

// alone: of each Op the least that it needs around it, and where it stands there.
func alone() map[string]struct {
	all []api.Instr
	at  int
} {
	return map[string]struct {
		all []api.Instr
		at  int
	}{
		"num":   {listOf(num(-7), let(0), stop()), 0},
		"text":  {listOf(txt("a\x00\xff"), let(0), stop()), 0},
		"reg":   {listOf(reg(3), let(0), stop()), 0},
		"op":    {listOf(num(1), num(2), opr("%", 4), let(0), stop()), 2},
		"con":   {listOf(num(1), num(2), con("A", 2, 4), let(0), stop()), 2},
		"let":   {listOf(num(1), let(3), stop()), 1},
		"cmp":   {listOf(num(1), num(2), compare(">=", 3), stop()), 2},
		"open":  {listOf(num(1), num(2), open(3, 2, 3), stop()), 2},
		"next":  {listOf(open(3, 2, 0), next(3, 0, 2), stop()), 1},
		"has":   {listOf(num(1), num(2), has(2, 3), stop()), 2},
		"not":   {listOf(num(1), num(2), not(2, 3), stop()), 2},
		"put":   {listOf(num(1), num(2), put(2), stop()), 2},
		"match": {listOf(match(3, "A/2", 1, 2), stop()), 0},
		"some":  {listOf(some(2, 0), stop()), 0},
		"jump":  {listOf(jump(1), stop()), 0},
		"clear": {listOf(clr(2), stop()), 0},
		"swap":  {listOf(swap(2, 3), stop()), 0},
		"merge": {listOf(merge(3, 2), stop()), 0},
		"stop":  {listOf(stop(), stop()), 0},
	}
}

// widths: the relations of the programs that are alone.
func widths() []int { return []int{0, 1, 2, 2, 8} }

// turned: the program of an Op alone, of which one turns something of the Op.
func turned(name string, turn func(x *api.Instr)) api.Code {
	a := alone()[name]
	turn(&a.all[a.at])
	return program(widths(), 4, a.all...)
}

// P18.1, P18.2: each Op alone may be, and has its place in the chapter's table as its byte.
func TestEachOpAlone(t *testing.T) {
	place := 0
	for name := range strings.FieldsSeq("num text reg op con let cmp open next has not put match some jump clear swap merge stop") {
		c := turned(name, func(x *api.Instr) {})
		may(t, name, c, true)
		b, _ := Encode(c)
		at := len("VB1") + 1 + len(c.Widths) + 1 + 1
		for _, x := range c.Instrs[:alone()[name].at] {
			at += 1 + 3 + 1 + len(x.S)
		}
		if c.Instrs[alone()[name].at].Op != name || int(b[at]) != place {
			t.Errorf("%s: %q has %d at %d, want %d", name, b, b[at], at, place)
		}
		place++
	}
	if place != len(alone()) || place != 19 {
		t.Errorf("%d Ops", place)
	}
}

// P18.1: other Ops may not be.
func TestOtherOps(t *testing.T) {
	for name := range alone() {
		for _, other := range []string{"", "nop", "Num", "num ", "stop\x00", "r", "text2", "halt", "clear\n", "op/", strings.Repeat("num", 1<<16)} {
			may(t, name+" as "+other[:min(len(other), 9)], turned(name, func(x *api.Instr) { x.Op = other }), false)
		}
	}
	may(t, "one alone", program(nil, 0, api.Instr{}), false)
	may(t, "one behind", ended(nil, 0, api.Instr{}), false)
}

// P18.1: Same: all that a program has counts.
func TestSame(t *testing.T) {
	c := closure()
	if !Same(c, closure()) || !Same(api.Code{}, api.Code{}) || Same(c, api.Code{}) || Same(api.Code{}, c) {
		t.Error("not the same")
	}
	if !Same(program([]int{}, 0, []api.Instr{}...), api.Code{}) || !Same(api.Code{}, api.Code{Widths: []int{}, Instrs: []api.Instr{}}) {
		t.Error("empty lists")
	}
	for name, turn := range map[string]func(c *api.Code){
		"a width":           func(c *api.Code) { c.Widths[3]++ },
		"a width less":      func(c *api.Code) { c.Widths = c.Widths[:3] },
		"a width more":      func(c *api.Code) { c.Widths = append(c.Widths, 0) },
		"registers":         func(c *api.Code) { c.Regs = -4 },
		"an Instr less":     func(c *api.Code) { c.Instrs = c.Instrs[:38] },
		"an Instr more":     func(c *api.Code) { c.Instrs = append(c.Instrs, api.Instr{}) },
		"the first Instr":   func(c *api.Code) { c.Instrs[0].A = 1 },
		"an Op":             func(c *api.Code) { c.Instrs[38].Op = "halt" },
		"an A":              func(c *api.Code) { c.Instrs[38].A = 1 },
		"a B":               func(c *api.Code) { c.Instrs[38].B = -1 },
		"a C":               func(c *api.Code) { c.Instrs[38].C = math.MinInt },
		"an S":              func(c *api.Code) { c.Instrs[38].S = "\x00" },
		"no Instrs":         func(c *api.Code) { c.Instrs = nil },
		"Instrs turned":     func(c *api.Code) { slices.Reverse(c.Instrs) },
		"two Instrs turned": func(c *api.Code) { c.Instrs[2], c.Instrs[3] = c.Instrs[3], c.Instrs[2] },
	} {
		twin := closure()
		turn(&twin)
		if Same(c, twin) || Same(twin, c) || !Same(twin, twin) {
			t.Errorf("%s: the same", name)
		}
	}
}
