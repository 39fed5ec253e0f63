package code

import (
	"math"
	"math/rand"
	"slices"
	"strings"
	"testing"

	"vestry/api"
)

// tally counts what came.
type tally map[string]int

// enough: each of these came often enough.
func (n tally) enough(t *testing.T, least int, names ...string) {
	t.Helper()
	for _, name := range names {
		if n[name] < least {
			t.Errorf("%s came %d times: %v", name, n[name], n)
		}
	}
}

// chance makes programs by chance.
type chance struct {
	*rand.Rand
	code   api.Code
	lie    int         // how many values lie
	opened map[int]int // the relation of each slot that is open
}

func newChance(seed int64) *chance { return &chance{Rand: rand.New(rand.NewSource(seed))} }

// one: one time of n.
func (c *chance) one(n int) bool { return c.Intn(n) == 0 }

func (c *chance) word(from ...string) string { return from[c.Intn(len(from))] }

func (c *chance) rel() int { return c.Intn(len(c.code.Widths)) }

func (c *chance) reg() int { return c.Intn(c.code.Regs) }

// from: where so many registers begin.
func (c *chance) from(count int) int { return c.Intn(c.code.Regs - count + 1) }

func (c *chance) slot() int { return []int{0, 0, 1, 2, 62, 63}[c.Intn(6)] }

func (c *chance) add(x api.Instr) { c.code.Instrs = append(c.code.Instrs, x) }

// program: one that may be.
func (c *chance) program() api.Code {
	c.code, c.lie, c.opened = api.Code{Regs: 1 + c.Intn(9)}, 0, map[int]int{}
	for range 1 + c.Intn(5) {
		c.code.Widths = append(c.code.Widths, c.Intn(min(c.code.Regs, 8)+1))
	}
	for range c.Intn(12) {
		c.statement()
	}
	c.add([]api.Instr{stop(), jump(0)}[c.Intn(2)])
	c.placed()
	return c.code
}

// placed: each instruction that has a place has one of those where nothing lies.
func (c *chance) placed() {
	lies := liesAhead(c.code)
	var bare []int
	for i := range c.code.Instrs {
		if lies[i] == 0 {
			bare = append(bare, i)
		}
	}
	for i := range c.code.Instrs {
		x := &c.code.Instrs[i]
		if slices.Contains(numbersIn(x.Op), "A place") {
			x.A = bare[c.Intn(len(bare))]
		}
		if slices.Contains(numbersIn(x.Op), "B place") {
			x.B = bare[c.Intn(len(bare))]
		}
	}
}

// numbersIn: what the numbers of an Op are.
func numbersIn(name string) []string {
	var found []string
	if cells := rowOf(name); cells != nil {
		for i, number := range []string{"A ", "B ", "C "} {
			found = append(found, number+cells[3+i])
		}
	}
	return found
}

// statement: some values, and what takes them.
func (c *chance) statement() {
	rel := c.rel()
	width := c.code.Widths[rel]
	switch c.Intn(13) {
	case 0:
		c.values(1)
		c.add(let(c.reg()))
	case 1:
		c.values(2)
		c.add(compare(c.word("=", "!=", "<", "<=", ">", ">="), 0))
	case 2, 3:
		c.open(rel)
	case 4, 5:
		c.next()
	case 6:
		c.values(width)
		c.add(has(rel, 0))
	case 7:
		c.values(width)
		c.add(not(rel, 0))
	case 8:
		c.values(width)
		c.add(put(rel))
	case 9:
		digit := c.Intn(min(c.code.Regs, 8) + 1)
		c.add(match(c.reg(), c.word("A", "Node", "_1")+"/"+string(rune('0'+digit)), 0, c.from(digit)))
	case 10:
		c.add(some(rel, 0))
	case 11:
		c.add([]api.Instr{jump(0), stop(), clr(rel)}[c.Intn(3)])
	case 12:
		other := c.rel()
		for c.code.Widths[other] != width {
			other = c.rel()
		}
		c.add([]api.Instr{swap(rel, other), merge(rel, other)}[c.Intn(2)])
	}
}

func (c *chance) open(rel int) {
	slot, set, count := c.slot(), 0, 0
	for col := range c.code.Widths[rel] {
		if c.one(2) {
			set, count = set+1<<col, count+1
		}
	}
	c.values(count)
	c.add(open(slot, rel, set))
	c.opened[slot] = rel
	if c.one(2) {
		c.next()
	}
}

func (c *chance) next() {
	slot := c.slot()
	if rel, there := c.opened[slot]; there {
		c.add(next(slot, 0, c.from(c.code.Widths[rel])))
	}
}

// values: instructions that put so many.
func (c *chance) values(n int) {
	for range n {
		c.value(3)
	}
}

func (c *chance) value(deep int) {
	switch kind := c.Intn(8); {
	case deep > 0 && kind == 0:
		c.value(deep - 1)
		c.value(deep - 1)
		c.add(opr(c.word("+", "-", "*", "/", "%"), 0))
	case deep > 0 && kind == 1:
		n := c.Intn(4)
		for range n {
			c.value(deep - 1)
		}
		c.add(con(c.word("A", "Node", "_1"), n, 0))
	case kind < 4:
		c.add(num(c.number()))
	case kind < 6:
		c.add(txt(c.word("", "a", "text", "\x00\xff", strings.Repeat("z", 130))))
	default:
		c.add(reg(c.reg()))
	}
}

// number: one of those about which something turns.
func (c *chance) number() int {
	odd := []int{-1, 0, 1, 2, 3, 4, 7, 8, 9, 63, 64, 65, 127, 128, 255, 256, -64, -65, 8191, 8192, 1 << 31, -1 << 40, 1 << 62, math.MinInt, math.MaxInt}
	return odd[c.Intn(len(odd))]
}

func (c *chance) text() string {
	return c.word("", "A", "A/0", "A/8", "A/9", "A/", "/1", "1/1", "=", "<", "+", "%", "a.b", "_", "A/11")
}

// some: one of a program's instructions; one of an Op that is rare comes as often as others.
func (c *chance) someInstr(m *api.Code) *api.Instr {
	names := opsInOrder()
	name := names[c.Intn(len(names))]
	at := c.Intn(len(m.Instrs))
	for i := range m.Instrs {
		if other := (at + i) % len(m.Instrs); m.Instrs[other].Op == name {
			return &m.Instrs[other]
		}
	}
	return &m.Instrs[at]
}

// wrong turns something in a program, so that it may not be, mostly.
func (c *chance) wrong(m *api.Code) {
	x := c.someInstr(m)
	switch c.Intn(13) {
	case 0, 1:
		x.A = c.number()
	case 2, 3:
		x.B = c.number()
	case 4, 5:
		x.C = c.number()
	case 6, 7:
		x.S = c.text()
	case 8:
		x.Op = c.word(append(opsInOrder(), "", "nop")...)
	case 9:
		i := c.Intn(len(m.Instrs))
		m.Instrs = slices.Delete(slices.Clone(m.Instrs), i, i+1)
	case 10:
		i := c.Intn(len(m.Instrs) + 1)
		m.Instrs = slices.Insert(slices.Clone(m.Instrs), i, *x)
	case 11:
		m.Widths = slices.Clone(m.Widths)
		m.Widths[c.Intn(len(m.Widths))] = c.number()
	default:
		m.Regs = c.number()
	}
}
