package code

import (
	"math"
	"slices"
	"strconv"
	"strings"
	"testing"

	"vestry/api"
)

// P18.2: of programs that may not be there are no bytes.
func TestNoBytes(t *testing.T) {
	for name, c := range map[string]api.Code{
		"nothing":          {},
		"a value too many": ended(nil, 0, num(1)),
		"a register":       ended(nil, 0, reg(0)),
		"a width":          program([]int{9}, 0, stop()),
		"an Op":            program(nil, 0, api.Instr{Op: "halt"}),
		"the last one":     program(nil, 0, clr(0)),
	} {
		may(t, name, c, false)
	}
}

// head: the bytes ahead of so many Instrs of a program that has no relations and one register.
func head(instrs int) string { return "VB1\x00\x01" + counted(instrs) }

const stopBytes = "\x12\x00\x00\x00\x00"

// P18.2, P18.3: signed numbers: the least and the greatest one, and those about which one takes a byte more.
func TestSignedNumbers(t *testing.T) {
	for n, want := range map[int]string{
		0: "\x00", -1: "\x01", 1: "\x02", -2: "\x03", 2: "\x04", 31: "\x3e", -32: "\x3f", 32: "\x40",
		63: "\x7e", -64: "\x7f", 64: "\x80\x01", -65: "\x81\x01", 65: "\x82\x01", 127: "\xfe\x01", -128: "\xff\x01", 128: "\x80\x02", -129: "\x81\x02",
		8191: "\xfe\x7f", -8192: "\xff\x7f", 8192: "\x80\x80\x01", -8193: "\x81\x80\x01", 16383: "\xfe\xff\x01", 16384: "\x80\x80\x02",
		1<<31 - 1: "\xfe\xff\xff\xff\x0f", -1 << 31: "\xff\xff\xff\xff\x0f", 1 << 31: "\x80\x80\x80\x80\x10",
		1<<62 - 1: "\xfe\xff\xff\xff\xff\xff\xff\xff\x7f", -1 << 62: "\xff\xff\xff\xff\xff\xff\xff\xff\x7f", 1 << 62: "\x80\x80\x80\x80\x80\x80\x80\x80\x80\x01", -1<<62 - 1: "\x81\x80\x80\x80\x80\x80\x80\x80\x80\x01",
		math.MaxInt - 1: "\xfc\xff\xff\xff\xff\xff\xff\xff\xff\x01", math.MaxInt: "\xfe\xff\xff\xff\xff\xff\xff\xff\xff\x01", math.MinInt + 1: "\xfd\xff\xff\xff\xff\xff\xff\xff\xff\x01", math.MinInt: "\xff\xff\xff\xff\xff\xff\xff\xff\xff\x01",
	} {
		c := ended(nil, 1, num(n), let(0))
		may(t, strconv.Itoa(n), c, true)
		whole := head(3) + "\x00" + want + "\x00\x00\x00" + "\x05\x00\x00\x00\x00" + stopBytes
		if b, _ := Encode(c); string(b) != whole {
			t.Errorf("%d: %q, want %q", n, b, whole)
		}
		if twin, f := Decode([]byte(whole)); !Same(twin, c) || f != (api.Fault{}) {
			t.Errorf("%d: %v, %s", n, f, told(twin))
		}
	}
	for shift := range 63 {
		for _, n := range []int{1<<shift - 1, 1 << shift, 1<<shift + 1} {
			for _, n := range []int{n, -n} {
				c := ended(nil, 1, num(n), let(0))
				if b, _ := Encode(c); string(b) != written(c) {
					t.Errorf("%d: %q, want %q", n, b, written(c))
				}
				may(t, strconv.Itoa(n), c, true)
			}
		}
	}
}

// P18.2, P18.3: numbers from 0 on: lengths of texts about which one takes a byte more; widths, registers and counts.
func TestNumbersFromZero(t *testing.T) {
	for size, want := range map[int]string{
		0: "\x00", 1: "\x01", 63: "\x3f", 64: "\x40", 126: "\x7e", 127: "\x7f", 128: "\x80\x01", 129: "\x81\x01", 255: "\xff\x01", 256: "\x80\x02",
		16383: "\xff\x7f", 16384: "\x80\x80\x01", 16385: "\x81\x80\x01", 65535: "\xff\xff\x03", 65536: "\x80\x80\x04",
	} {
		s := strings.Repeat("\xfe", size)
		c := ended(nil, 1, txt(s), let(0))
		may(t, "a text of "+strconv.Itoa(size), c, true)
		if b, _ := Encode(c); string(b) != head(3)+"\x01\x00\x00\x00"+want+s+"\x05\x00\x00\x00\x00"+stopBytes {
			t.Errorf("%d: %d bytes", size, len(b))
		}
	}
	for regs, want := range map[int]string{0: "\x00", 1: "\x01", 127: "\x7f", 128: "\x80\x01", 255: "\xff\x01", 256: "\x80\x02"} {
		c := program(nil, regs, stop())
		may(t, strconv.Itoa(regs)+" registers", c, true)
		if b, _ := Encode(c); string(b) != "VB1\x00"+want+"\x01"+stopBytes {
			t.Errorf("%d registers: %q", regs, b)
		}
	}
	for rels, want := range map[int]string{0: "\x00", 1: "\x01", 127: "\x7f", 128: "\x80\x01"} {
		c := program(slices.Repeat([]int{8}, rels), 0, stop())
		may(t, strconv.Itoa(rels)+" relations", c, true)
		if b, _ := Encode(c); string(b) != "VB1"+want+strings.Repeat("\x08", rels)+"\x00\x01"+stopBytes {
			t.Errorf("%d relations: %q", rels, b)
		}
	}
	for instrs, want := range map[int]string{1: "\x01", 127: "\x7f", 128: "\x80\x01", 4095: "\xff\x1f", 4096: "\x80\x20"} {
		c := program(nil, 0, slices.Repeat(listOf(stop()), instrs)...)
		may(t, strconv.Itoa(instrs)+" Instrs", c, true)
		if b, _ := Encode(c); string(b) != "VB1\x00\x00"+want+strings.Repeat(stopBytes, instrs) {
			t.Errorf("%d Instrs: %d bytes", instrs, len(b))
		}
	}
}

// P18.3: bytes that don't begin as a program's.
func TestFirstBytes(t *testing.T) {
	fails(t, "no bytes", "", 0)
	if c, f := Decode(nil); f != (api.Fault{Why: api.ErrCode}) || c.Instrs != nil {
		t.Error(f)
	}
	for b, at := range map[string]int{
		"V": 1, "VB": 2, "VB1": 3, "v": 0, "B1": 0, "1": 0, "\x00": 0, " VB1": 0, "\xef\xbb\xbfVB1": 0, "Vb1": 1, "V1": 1, "VB2": 2, "VB\x01": 2, "VBVB1": 2, "VV": 1, "vb1\x00\x00\x01" + stopBytes: 0, "VB2\x00\x00\x01" + stopBytes: 2, "VB\x00\x00\x01" + stopBytes: 2,
	} {
		fails(t, b, b, at)
	}
}

// P18.3, P18.5: of the beginnings of a program's bytes none is one's, and each is the beginning of one's.
func TestBeginnings(t *testing.T) {
	for _, c := range []api.Code{closure(), program(nil, 0, stop()), ended([]int{8, 0}, 256, num(math.MinInt), txt(strings.Repeat("ab", 99)), compare("<", 0))} {
		b, _ := Encode(c)
		for size := range len(b) {
			fails(t, strconv.Itoa(size)+" bytes", string(b[:size]), size)
		}
		for value := range 256 {
			fails(t, "one byte too many", string(b)+string([]byte{byte(value)}), len(b))
		}
		fails(t, "twice", string(b)+string(b), len(b))
	}
}

// P18.3: counts, widths and lengths at their limits, and one beyond them; and those with a needless last byte.
func TestLimitsOfBytes(t *testing.T) {
	for b, at := range map[string]int{
		// Relations.
		"VB1\x80": 4, "VB1\x80\x01": 5, "VB1\x81": 3, "VB1\x81\x01": 3, "VB1\x80\x00": 4, "VB1\x80\x02": 4, "VB1\x80\x80": 4, "VB1\x80\x81": 4, "VB1\x81\x00": 3, "VB1\x82": 3, "VB1\xff": 3, "VB1\xff\x01": 3, "VB1\x7f": 4,
		// Widths.
		"VB1\x01\x08": 5, "VB1\x01\x09": 4, "VB1\x01\x80": 4, "VB1\x01\x88\x00": 4, "VB1\x01\x7f": 4, "VB1\x02\x08\x08": 6, "VB1\x02\x08\x09": 5,
		// Registers.
		"VB1\x00\x80": 5, "VB1\x00\x80\x02": 6, "VB1\x00\x81\x02": 5, "VB1\x00\x81\x01": 6, "VB1\x00\xff\x01": 6, "VB1\x00\xff\x02": 5, "VB1\x00\x80\x00": 5, "VB1\x00\x80\x03": 5, "VB1\x00\x80\x80": 5, "VB1\x00\x80\x82": 5, "VB1\x00\xff\x81": 5,
		// Instrs.
		"VB1\x00\x00\x80\x20": 7, "VB1\x00\x00\x81\x20": 6, "VB1\x00\x00\xff\x1f": 7, "VB1\x00\x00\xff\x20": 6, "VB1\x00\x00\x80\x21": 6, "VB1\x00\x00\x80\x00": 6, "VB1\x00\x00\x80\x80": 6, "VB1\x00\x00\x80\xa0": 6, "VB1\x00\x00\x80\x80\x01": 6,
		// Ops.
		head(1) + "\x12": 7, head(1) + "\x13": 6, head(1) + "\x14": 6, head(1) + "\x7f": 6, head(1) + "\x80": 6, head(1) + "\xff": 6, head(1) + "\x92\x00": 6, head(2) + stopBytes + "\x12": 12, head(2) + stopBytes + "\x13": 11,
		// Lengths.
		head(1) + "\x01\x00\x00\x00\x80\x80\x04": 13, head(1) + "\x01\x00\x00\x00\x81\x80\x04": 12, head(1) + "\x01\x00\x00\x00\xff\xff\x03": 13, head(1) + "\x01\x00\x00\x00\xff\xff\x04": 12, head(1) + "\x01\x00\x00\x00\x80\x81\x04": 12,
		head(1) + "\x01\x00\x00\x00\x80\x80\x05": 12, head(1) + "\x01\x00\x00\x00\x80\x80\x84": 12, head(1) + "\x01\x00\x00\x00\x80\x80\x80": 12, head(1) + "\x01\x00\x00\x00\x80\x00": 11, head(1) + "\x01\x00\x00\x00\x80\x80\x00": 12,
		// Texts.
		head(1) + "\x01\x00\x00\x00\x02a": 12, head(1) + "\x01\x00\x00\x00\x80\x80\x04" + strings.Repeat("a", 99): 112, head(1) + "\x01\x00\x00\x00\x80\x80\x04" + strings.Repeat("a", 65535): 65548,
	} {
		fails(t, strconv.Quote(b[:min(len(b), 30)]), b, at)
	}
	// A text of 2^16 bytes is whole; behind it comes the stop.
	long := head(2) + "\x01\x00\x00\x00\x80\x80\x04" + strings.Repeat("a", 65536)
	fails(t, "without the stop", long, len(long))
	fails(t, "a whole list that may not be", long+stopBytes, len(long)+5)
}

// P18.3: numbers up to 64 bits, and beyond them, at each of an instruction's numbers.
func TestBeyond64Bits(t *testing.T) {
	for i := range 3 {
		ahead := head(1) + "\x00" + strings.Repeat("\x00", i)
		for b, at := range map[string]int{
			"": 0, "\x80": 1, "\x80\x00": 1, "\x80\x80\x00": 2, "\xff\x00": 1, "\x81\x80\x80\x00": 3, "\xff": 1, "\x80\x01": 2,
			strings.Repeat("\xff", 8) + "\x7f": 9, strings.Repeat("\xff", 9): 9, strings.Repeat("\x80", 9): 9, strings.Repeat("\xff", 9) + "\x01": 10, strings.Repeat("\x80", 9) + "\x01": 10,
			strings.Repeat("\xff", 9) + "\x02": 9, strings.Repeat("\x80", 9) + "\x02": 9, strings.Repeat("\x80", 9) + "\x00": 9, strings.Repeat("\x80", 9) + "\x03": 9, strings.Repeat("\x80", 9) + "\x7f": 9,
			strings.Repeat("\x80", 10): 9, strings.Repeat("\x80", 10) + "\x00": 9, strings.Repeat("\x80", 9) + "\x81": 9, strings.Repeat("\x80", 9) + "\x81\x00": 9, strings.Repeat("\xff", 11): 9, strings.Repeat("\x80", 70): 9, strings.Repeat("\x80", 9) + "\xff": 9,
		} {
			fails(t, strconv.Quote(b), ahead+b, len(ahead)+at)
		}
	}
}

// P18.3: bytes of a whole list that may not be: all of them; and of one with a byte too many: where that stands.
func TestWholeLists(t *testing.T) {
	for name, c := range map[string]api.Code{
		"no Instr":          {Widths: []int{1}, Regs: 1},
		"a value too many":  ended(nil, 0, num(1)),
		"a register":        ended(nil, 0, reg(0), let(0)),
		"a last one":        program([]int{1}, 0, clr(0)),
		"a needless number": program(nil, 0, api.Instr{Op: "stop", C: math.MinInt}),
		"a needless text":   program(nil, 0, api.Instr{Op: "stop", S: "ab"}),
		"a sign":            ended(nil, 0, num(1), num(1), compare("==", 0)),
		"a place":           program(nil, 0, jump(1)),
		"a slot":            ended([]int{1}, 0, open(64, 0, 0)),
		"greatest counts":   {Widths: slices.Repeat([]int{8}, 128), Regs: 256, Instrs: slices.Repeat(listOf(num(1)), 4096)},
	} {
		b := written(c)
		fails(t, name, b, len(b))
		for _, behind := range []string{"\x00", "\x12", "V", "\xff\xff"} {
			fails(t, name+" and more", b+behind, len(b))
		}
		fails(t, name+" without the last byte", b[:len(b)-1], len(b)-1)
	}
}
