package code

import (
	"math/big"
	"slices"
	"strings"
	"sync"

	"vestry/api"
)

// table: what an instruction has, by the chapter's table: how many values it takes, how many it puts, and what A, B, C and S are (- is none).
const table = `
num   0       1 number   -        -      -
text  0       1 -        -        -      text
reg   0       1 register -        -      -
op    2       1 -        place    -      operator
con   A       1 args     place    -      word
let   1       0 register -        -      -
cmp   2       0 -        place    -      comparison
open  bits    0 slot     relation set    -
next  0       0 open     place    tuple  -
has   columns 0 relation place    -      -
not   columns 0 relation place    -      -
put   columns 0 relation -        -      -
match 0       0 register place    match  shape
some  0       0 relation place    -      -
jump  0       0 place    -        -      -
clear 0       0 relation -        -      -
swap  0       0 relation alike    -      -
merge 0       0 relation alike    -      -
stop  0       0 -        -        -      -
`

// rows: the rows of the table.
var rows = sync.OnceValue(func() [][]string {
	var all [][]string
	for line := range strings.Lines(table) {
		if cells := strings.Fields(line); len(cells) > 0 {
			all = append(all, cells)
		}
	}
	return all
})

// rowOf: the row of an Op in the table, or nil.
func rowOf(name string) []string {
	for _, cells := range rows() {
		if cells[0] == name {
			return cells
		}
	}
	return nil
}

// opsInOrder: the names of the table.
func opsInOrder() []string {
	var names []string
	for _, cells := range rows() {
		names = append(names, cells[0])
	}
	return names
}

// numbersAs: an instruction's numbers that are this, by the table.
func numbersAs(x api.Instr, as string) []int {
	var found []int
	for i, n := range []int{x.A, x.B, x.C} {
		if cells := rowOf(x.Op); cells != nil && cells[3+i] == as {
			found = append(found, n)
		}
	}
	return found
}

func textIs(x api.Instr, as string) bool { cells := rowOf(x.Op); return cells != nil && cells[6] == as }

func isRelation(c api.Code, n int) bool { return 0 <= n && n < len(c.Widths) }

// widthIn: a relation's width, or that which none has.
func widthIn(c api.Code, n int) int {
	if !isRelation(c, n) || c.Widths[n] < 0 || c.Widths[n] > 8 {
		return -1
	}
	return c.Widths[n]
}

// opened: the relation of the last open of a slot ahead of an instruction, or -1.
func openedAt(c api.Code, at, slot int) int {
	for i := at - 1; i >= 0; i-- {
		if c.Instrs[i].Op == "open" && c.Instrs[i].A == slot {
			return c.Instrs[i].B
		}
	}
	return -1
}

// mayBeWord: a letter or _, and letters, digits, _; at most 64 bytes.
func mayBeWord(s string) bool {
	const letters = "abcdefghijklmnopqrstuvwxyzABCDEFGHIJKLMNOPQRSTUVWXYZ_"
	if s == "" || len(s) > 64 || !strings.Contains(letters, s[:1]) {
		return false
	}
	for i := range len(s) {
		if !strings.Contains(letters+"0123456789", s[i:i+1]) {
			return false
		}
	}
	return true
}

// shapeOf: the digit of a match's text, or -1.
func shapeOf(s string) int {
	for digit := range 9 {
		if name, ends := strings.CutSuffix(s, "/"+string(rune('0'+digit))); ends && mayBeWord(name) {
			return digit
		}
	}
	return -1
}

// takesAt: how many values an instruction takes, as far as its numbers tell; else -1.
func takesAt(c api.Code, x api.Instr) int {
	cells := rowOf(x.Op)
	switch {
	case cells == nil:
		return -1
	case cells[1] == "A":
		if x.A < 0 || x.A > 8 {
			return -1
		}
		return x.A
	case cells[1] == "bits":
		if x.C < 0 {
			return -1
		}
		bits := 0
		for set := x.C; set > 0; set /= 2 {
			bits += set % 2
		}
		return bits
	case cells[1] == "columns":
		return widthIn(c, x.A)
	}
	return int(cells[1][0] - '0')
}

// putsAt: how many values an instruction puts.
func putsAt(x api.Instr) int {
	if cells := rowOf(x.Op); cells != nil {
		return int(cells[2][0] - '0')
	}
	return 0
}

// liesAhead: how many values lie ahead of each instruction, and behind the last one.
func liesAhead(c api.Code) []int {
	lies := []int{0}
	for i, x := range c.Instrs {
		lies = append(lies, lies[i]-max(takesAt(c, x), 0)+putsAt(x))
	}
	return lies
}

// law: whether a program is what one that may be is.
type law func(c api.Code) bool

// each: what holds of each instruction.
func each(holds func(c api.Code, i int, x api.Instr) bool) law {
	return func(c api.Code) bool {
		for i, x := range c.Instrs {
			if !holds(c, i, x) {
				return false
			}
		}
		return true
	}
}

// eachNumber: what holds of each number that is this by the table.
func eachNumber(as string, holds func(c api.Code, i int, x api.Instr, n int) bool) law {
	return each(func(c api.Code, i int, x api.Instr) bool {
		return !slices.ContainsFunc(numbersAs(x, as), func(n int) bool { return !holds(c, i, x, n) })
	})
}

// eachText: what holds of each text that is this by the table.
func eachText(as string, holds func(s string) bool) law {
	return each(func(c api.Code, i int, x api.Instr) bool { return !textIs(x, as) || holds(x.S) })
}

// fitsRegs: whether so many registers from one on are the program's.
func fitsRegs(c api.Code, from, count int) bool {
	return from >= 0 && from <= 1000 && count >= 0 && from+count <= c.Regs
}

// laws: what a program that may be is, by name.
func laws() map[string]law {
	return map[string]law{
		"relations": func(c api.Code) bool { return len(c.Widths) <= 128 },
		"widths": func(c api.Code) bool {
			return !slices.ContainsFunc(c.Widths, func(n int) bool { return n < 0 || n > 8 })
		},
		"registers": func(c api.Code) bool { return c.Regs >= 0 && c.Regs <= 256 },
		"Instrs":    func(c api.Code) bool { return len(c.Instrs) >= 1 && len(c.Instrs) <= 4096 },
		"last": func(c api.Code) bool {
			return len(c.Instrs) == 0 || slices.Contains([]string{"stop", "jump"}, c.Instrs[len(c.Instrs)-1].Op)
		},
		"Ops": each(func(c api.Code, i int, x api.Instr) bool { return rowOf(x.Op) != nil }),
		"needless numbers": eachNumber("-", func(c api.Code, i int, x api.Instr, n int) bool {
			return n == 0
		}),
		"needless texts": eachText("-", func(s string) bool { return s == "" }),
		"long texts":     eachText("text", func(s string) bool { return len(s) <= 1<<16 }),
		"operators":      eachText("operator", func(s string) bool { return slices.Contains(strings.Fields("+ - * / %"), s) }),
		"comparisons":    eachText("comparison", func(s string) bool { return slices.Contains(strings.Fields("= != < <= > >="), s) }),
		"words":          eachText("word", mayBeWord),
		"shapes":         eachText("shape", func(s string) bool { return shapeOf(s) >= 0 }),
		"asked for":      eachNumber("register", func(c api.Code, i int, x api.Instr, n int) bool { return fitsRegs(c, n, 1) }),
		"args":           eachNumber("args", func(c api.Code, i int, x api.Instr, n int) bool { return n >= 0 && n <= 8 }),
		"slots":          eachNumber("slot", func(c api.Code, i int, x api.Instr, n int) bool { return n >= 0 && n < 64 }),
		"relation":       eachNumber("relation", func(c api.Code, i int, x api.Instr, n int) bool { return isRelation(c, n) }),
		"sets": eachNumber("set", func(c api.Code, i int, x api.Instr, n int) bool {
			return widthIn(c, x.B) < 0 || n >= 0 && n < 1<<widthIn(c, x.B)
		}),
		"opened": eachNumber("open", func(c api.Code, i int, x api.Instr, n int) bool { return openedAt(c, i, n) >= 0 }),
		"tuples": eachNumber("tuple", func(c api.Code, i int, x api.Instr, n int) bool {
			width := widthIn(c, openedAt(c, i, x.A))
			return width < 0 || fitsRegs(c, n, width)
		}),
		"matched": eachNumber("match", func(c api.Code, i int, x api.Instr, n int) bool {
			return shapeOf(x.S) < 0 || fitsRegs(c, n, shapeOf(x.S))
		}),
		"alike": eachNumber("alike", func(c api.Code, i int, x api.Instr, n int) bool {
			return isRelation(c, n) && (!isRelation(c, x.A) || c.Widths[n] == c.Widths[x.A])
		}),
		"stack":  evenStack,
		"places": placesBare,
	}
}

// placesBare: no value lies ahead of an instruction that is a place.
func placesBare(c api.Code) bool {
	lies := liesAhead(c)
	return eachNumber("place", func(c api.Code, i int, x api.Instr, n int) bool {
		return n >= 0 && n < len(c.Instrs) && lies[n] == 0
	})(c)
}

// evenStack: each finds as many values as it takes.
func evenStack(c api.Code) bool {
	lies := liesAhead(c)
	for i, x := range c.Instrs {
		takes := takesAt(c, x)
		switch {
		case takes < 0: // another law is broken
		case putsAt(x) == 1 && (lies[i] < takes || lies[i+1] > 64), putsAt(x) == 0 && lies[i] != takes:
			return false
		}
	}
	return true
}

// broken: the names of the laws that a program breaks.
func broken(c api.Code) []string {
	var names []string
	for name, holds := range laws() {
		if !holds(c) {
			names = append(names, name)
		}
	}
	slices.Sort(names)
	return names
}

// digits: a number from 0 on, seven bits a byte, the lowest first.
func digits(n *big.Int) string {
	rest, low := new(big.Int).DivMod(n, big.NewInt(128), new(big.Int))
	if rest.Sign() == 0 {
		return string([]byte{byte(low.Int64())})
	}
	return string([]byte{byte(low.Int64()) + 128}) + digits(rest)
}

func counted(n int) string { return digits(big.NewInt(int64(n))) }

// signed: a signed number's bytes.
func signed(n int) string {
	twice := new(big.Int).Mul(big.NewInt(int64(n)), big.NewInt(2))
	if n < 0 {
		twice.Sub(twice.Neg(twice), big.NewInt(1))
	}
	return digits(twice)
}

// written: a program's bytes, by the chapter's words.
func written(c api.Code) string {
	var b strings.Builder
	b.WriteString("VB1" + counted(len(c.Widths)))
	for _, width := range c.Widths {
		b.WriteString(counted(width))
	}
	b.WriteString(counted(c.Regs) + counted(len(c.Instrs)))
	for _, x := range c.Instrs {
		b.WriteString(string([]byte{byte(slices.Index(opsInOrder(), x.Op))}) + signed(x.A) + signed(x.B) + signed(x.C) + counted(len(x.S)) + x.S)
	}
	return b.String()
}

// scanner goes over bytes, as long as they are the beginning of some list's.
type scanner struct {
	left string
	read int
	off  bool // whether they are none any more, or have ended
}

// field reads the shortest beginning of what is left that is whole; each shorter one must begin something.
func (s *scanner) field(begins, whole func(b string) bool) string {
	for size := 1; !s.off; size++ {
		if size > len(s.left) {
			s.off, s.read, s.left = true, s.read+len(s.left), ""
			break
		}
		b := s.left[:size]
		if whole(b) {
			s.left, s.read = s.left[size:], s.read+size
			return b
		}
		if !begins(b) {
			s.off, s.read = true, s.read+size-1
		}
	}
	return ""
}

// valueOf: what a number's bytes come to.
func valueOf(b string) *big.Int {
	n := new(big.Int)
	for i := len(b) - 1; i >= 0; i-- {
		n.Mul(n, big.NewInt(128)).Add(n, big.NewInt(int64(b[i]%128)))
	}
	return n
}

// from0: reads a number from 0 up to most.
func (s *scanner) from0(most *big.Int) *big.Int {
	whole := func(b string) bool {
		return valueOf(b).Cmp(most) <= 0 && digits(valueOf(b)) == b
	}
	begins := func(b string) bool { return b[len(b)-1] >= 128 && whole(b+"\x01") }
	return valueOf(s.field(begins, whole))
}

func (s *scanner) upTo(most int) int { return int(s.from0(big.NewInt(int64(most))).Int64()) }

// signedNumber: reads one.
func (s *scanner) signedNumber() int {
	n := s.from0(new(big.Int).Sub(new(big.Int).Lsh(big.NewInt(1), 64), big.NewInt(1)))
	if n.Bit(0) == 0 {
		return int(n.Rsh(n, 1).Int64())
	}
	n.Add(n, big.NewInt(1)).Rsh(n, 1)
	return int(n.Neg(n).Int64())
}

// bytes: reads so many of any.
func (s *scanner) bytes(n int) string {
	if n == 0 {
		return ""
	}
	return s.field(func(b string) bool { return true }, func(b string) bool { return len(b) == n })
}

// decoded: what bytes are, by the chapter's words.
func decoded(b string) (api.Code, api.Fault) {
	s := &scanner{left: b}
	var c api.Code
	s.field(func(b string) bool { return strings.HasPrefix("VB1", b) }, func(b string) bool { return b == "VB1" })
	for range s.upTo(128) {
		c.Widths = append(c.Widths, s.upTo(8))
	}
	c.Regs = s.upTo(256)
	for range s.upTo(4096) {
		if s.off {
			break
		}
		op := s.field(func(string) bool { return false }, func(b string) bool { return b[0] < 19 })
		x := api.Instr{A: s.signedNumber(), B: s.signedNumber(), C: s.signedNumber()}
		x.S = s.bytes(s.upTo(1 << 16))
		if op != "" {
			x.Op = opsInOrder()[op[0]]
		}
		c.Instrs = append(c.Instrs, x)
	}
	if s.off || s.left != "" || len(broken(c)) > 0 {
		return api.Code{}, api.Fault{Why: api.ErrCode, At: s.read}
	}
	return c, api.Fault{}
}
