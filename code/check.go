package code

import (
	"math/bits"
	"strings"

	"vestry/api"
	"vestry/ram"
	"vestry/term"
)

// The limits that no other layer has.
const (
	maxRels  = 128
	maxRegs  = 256
	maxSlots = 64
	maxStack = 64
)

func notWidth(width int) bool { return width < 0 || width > api.MaxWidth }

// ends tells whether nothing comes behind an instruction.
func ends(x api.Instr) bool { return x.Op == "stop" || x.Op == "jump" }

// within tells whether a number is one of so many, from 0 on.
func within(n, count int) bool { return n >= 0 && n < count }

// checker goes through a program's instructions, in order.
type checker struct {
	api.Code
	from   [maxSlots]int // of each slot one more than the relation of its last open so far
	lie    int           // how many values lie on the stack
	bare   []bool        // of each instruction so far, whether no value lies ahead of it
	places []int         // all that instructions name
}

func newChecker(c api.Code) *checker { return &checker{Code: c} }

// all tells whether all instructions may be. Places may be ahead, so that these are looked at last.
func (c *checker) all() bool {
	for _, x := range c.Instrs {
		c.bare = append(c.bare, c.lie == 0)
		if !c.instr(x) {
			return false
		}
	}
	for _, n := range c.places {
		if !c.bare[n] {
			return false
		}
	}
	return true
}

// instr tells whether an instruction may come next, its places aside.
func (c *checker) instr(x api.Instr) bool {
	n := placeOf(x.Op)
	if n < 0 {
		return false
	}
	o := ops[n]
	if !isText(o.s, x.S) || !c.is(o.a, x.A, x) || !c.is(o.b, x.B, x) || !c.is(o.c, x.C, x) {
		return false
	}
	if o.a == slot {
		c.from[x.A] = x.B + 1
	}
	return c.moves(o, x)
}

// is tells whether a number of an instruction is what it must be. What it hangs on, the text and the numbers ahead of it, may be.
func (c *checker) is(must what, n int, x api.Instr) bool {
	switch must {
	case number:
		return true
	case register:
		return within(n, c.Regs)
	case row:
		return c.areRegs(n, c.Widths[c.from[x.A]-1])
	case parts:
		return c.areRegs(n, digit(x.S))
	case count:
		return within(n, api.MaxWidth+1)
	case slot:
		return within(n, maxSlots)
	case opened:
		return within(n, maxSlots) && c.from[n] > 0
	case relation:
		return within(n, len(c.Widths))
	case twin:
		return within(n, len(c.Widths)) && c.Widths[n] == c.Widths[x.A]
	case columns:
		return within(n, 1<<c.Widths[x.B])
	case place:
		c.places = append(c.places, n)
		return within(n, len(c.Instrs))
	}
	return n == 0
}

// areRegs tells whether so many registers from one on are the program's.
func (c *checker) areRegs(first, count int) bool { return first >= 0 && first <= c.Regs-count }

// moves tells whether an instruction finds on the stack what it takes, and has room there for what it puts. One that puts may leave others lying, and no other one may.
func (c *checker) moves(o op, x api.Instr) bool {
	takes := c.takes(o.takes, x)
	if c.lie < takes || c.lie > takes && o.puts == 0 {
		return false
	}
	c.lie += o.puts - takes
	return c.lie <= maxStack
}

// takes is how many values an instruction takes.
func (c *checker) takes(how take, x api.Instr) int {
	switch how {
	case countOf:
		return x.A
	case columnsOf:
		return bits.OnesCount(uint(x.C))
	case widthOf:
		return c.Widths[x.A]
	}
	return int(how)
}

// isText tells whether a text of an instruction is what it must be.
func isText(must text, s string) bool {
	switch must {
	case symbol:
		return len(s) <= api.MaxText
	case operator:
		return isOperator(s)
	case comparison:
		return isComparison(s)
	case word:
		return isWord(s)
	case shape:
		return isShape(s)
	}
	return s == ""
}

// isOperator tells whether a text is an operator's sign: what that is, layer 16 knows.
func isOperator(s string) bool {
	zero := api.RExpr{Kind: api.ENum}
	return compares("=", api.RExpr{Kind: api.EOp, S: s, Kids: []api.RExpr{zero, zero}})
}

// isComparison tells whether a text is a comparison's sign.
func isComparison(s string) bool { return compares(s, api.RExpr{Kind: api.ENum}) }

// compares tells whether a program that compares an expression with a number may be.
func compares(sign string, x api.RExpr) bool {
	return ram.Check(api.Ram{Main: api.RNode{Kind: api.RCmp, Op: sign, L: x, R: api.RExpr{Kind: api.ENum}}})
}

// isWord tells whether a constructor may have a name.
func isWord(s string) bool { return term.Right(api.Val{Kind: api.Con, S: s}) }

// isShape tells whether a text is a constructor's name and how many Args it has.
func isShape(s string) bool {
	name, args, there := strings.Cut(s, "/")
	return there && isWord(name) && len(args) == 1 && within(digit(args), api.MaxWidth+1)
}

// digit is a text's last byte as a digit.
func digit(s string) int { return int(s[len(s)-1]) - '0' }
