package code

import "vestry/api"

// The bytes of each program begin so.
const sign = "VB1"

// more is the bit of a number's byte behind which another one comes.
const more = 1 << 7

// writer writes a program's bytes.
type writer struct{ bytes []byte }

func (w *writer) code(c api.Code) {
	w.bytes = append(w.bytes, sign...)
	w.number(uint64(len(c.Widths)))
	for _, width := range c.Widths {
		w.number(uint64(width))
	}
	w.number(uint64(c.Regs))
	w.number(uint64(len(c.Instrs)))
	for _, x := range c.Instrs {
		w.instr(x)
	}
}

func (w *writer) instr(x api.Instr) {
	w.bytes = append(w.bytes, byte(placeOf(x.Op)))
	for _, n := range [...]int{x.A, x.B, x.C} {
		w.number(folded(n))
	}
	w.number(uint64(len(x.S)))
	w.bytes = append(w.bytes, x.S...)
}

// number writes a number from 0 on.
func (w *writer) number(n uint64) {
	for n >= more {
		w.bytes = append(w.bytes, byte(n)|more)
		n >>= 7
	}
	w.bytes = append(w.bytes, byte(n))
}

// folded is a signed number as one from 0 on: the even ones are those from 0 on.
func folded(n int) uint64 { return uint64(n)<<1 ^ uint64(n>>63) }

func unfolded(n uint64) int { return int(n>>1) ^ -int(n&1) }

// reader reads a program's bytes. Where they are none it is stuck ahead of the first byte that can't stand there, and reads zeros from then on.
type reader struct {
	bytes []byte
	at    int
	stuck bool
}

func (r *reader) code() api.Code {
	var c api.Code
	for i := range len(sign) {
		r.next(func(b byte) bool { return b == sign[i] })
	}
	for range r.number(maxRels) {
		c.Widths = append(c.Widths, int(r.number(api.MaxWidth)))
	}
	c.Regs = int(r.number(maxRegs))
	for range r.number(api.MaxCode) {
		c.Instrs = append(c.Instrs, r.instr())
	}
	return c
}

func (r *reader) instr() api.Instr {
	o := ops[r.next(func(b byte) bool { return int(b) < len(ops) })]
	return api.Instr{Op: o.name, A: r.signed(), B: r.signed(), C: r.signed(), S: r.text()}
}

// next reads the next byte, if it may stand here.
func (r *reader) next(may func(b byte) bool) byte {
	if r.stuck || r.at == len(r.bytes) || !may(r.bytes[r.at]) {
		r.stuck = true
		return 0
	}
	r.at++
	return r.bytes[r.at-1]
}

// number reads a number from 0 on that is not above most. A byte that has more behind it is, as it stands, what that makes at least: so each byte is held against what is left of most.
func (r *reader) number(most uint64) uint64 {
	n, shift := uint64(0), 0
	for {
		left := most >> shift
		b := r.next(func(b byte) bool {
			least := uint64(b)
			return (least < left || least == left && n <= most-left<<shift) && (least > 0 || shift == 0)
		})
		if r.stuck {
			return 0
		}
		n |= uint64(b&^more) << shift
		if b < more {
			return n
		}
		shift += 7
	}
}

func (r *reader) signed() int { return unfolded(r.number(1<<64 - 1)) }

func (r *reader) text() string {
	size, left := int(r.number(api.MaxText)), r.bytes[r.at:]
	if size > len(left) {
		r.at, r.stuck = len(r.bytes), true
		return ""
	}
	r.at += size
	return string(left[:size])
}
