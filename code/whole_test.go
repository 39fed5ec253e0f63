package code

import (
	"fmt"
	"strings"
	"testing"

	"vestry/api"
)

// P18.1: Check of programs by chance, of which something is turned mostly, is what the chapter says.
func TestCheckByChance(t *testing.T) {
	n := tally{}
	for seed := range int64(30000) {
		c := newChance(seed)
		m := c.program()
		if names := broken(m); len(names) > 0 {
			t.Fatalf("%v: %s", names, told(m))
		}
		for range c.Intn(3) {
			c.wrong(&m)
			if len(m.Instrs) == 0 {
				break
			}
		}
		names := broken(m)
		if got := Check(m); got != (len(names) == 0) {
			t.Fatalf("%v, want %v: %s", got, names, told(m))
		}
		// Each law, where it alone is broken.
		if len(names) == 1 {
			n[names[0]]++
		}
		if len(names) == 0 {
			n["may be"]++
		}
	}
	n.enough(t, 9000, "may be")
	n.enough(t, 20, "registers", "Instrs", "last", "Ops", "needless numbers", "needless texts", "operators", "comparisons", "words", "shapes", "asked for",
		"slots", "relation", "sets", "opened", "tuples", "matched", "alike", "stack", "places")
	n.enough(t, 1, "widths", "args")
}

// P18.2, P18.4: programs by chance have the bytes that the chapter says, and are what these are read as.
func TestBytesByChance(t *testing.T) {
	n := tally{}
	for seed := range int64(6000) {
		c := newChance(seed)
		m := c.program()
		if c.one(4) {
			c.wrong(&m)
		}
		b, e := Encode(m)
		n[fmt.Sprint(e)]++
		if len(broken(m)) > 0 {
			if e != api.ErrCode || b != nil {
				t.Fatalf("%q, %v: %s", b, e, told(m))
			}
			continue
		}
		if want := written(m); string(b) != want || e != api.OK {
			t.Fatalf("%q, %v, want %q: %s", b, e, want, told(m))
		}
		twin, f := Decode(b)
		if !Same(twin, m) || f != (api.Fault{}) {
			t.Fatalf("%v: %s, want %s", f, told(twin), told(m))
		}
	}
	n.enough(t, 500, "error 0", "error 21")
}

// twins: whether Decode of bytes is what the chapter says, and what Encode makes of its program is the bytes again.
func twins(t *testing.T, b string, n tally) {
	t.Helper()
	c, f := Decode([]byte(b))
	want, fault := decoded(b)
	if f != fault || !Same(c, want) {
		t.Fatalf("%q: %v, %s; want %v, %s", b, f, told(c), fault, told(want))
	}
	switch {
	case f == (api.Fault{}):
		if again, e := Encode(c); string(again) != b || e != api.OK {
			t.Fatalf("%q: %q, %v", b, again, e)
		}
		n["none"]++
	case f.At == len(b):
		n["at the end"]++
	default:
		n["within"]++
	}
}

// P18.3, P18.4: Decode of bytes by chance is what the chapter says: of programs' bytes, of their beginnings, with bytes behind, and with bytes turned; and of lists that may not be.
func TestDecodeByChance(t *testing.T) {
	n := tally{}
	for seed := range int64(8000) {
		c := newChance(seed)
		m := c.program()
		if c.one(3) {
			m.Instrs[c.Intn(len(m.Instrs))].A = c.number()
		}
		b := written(m)
		switch c.Intn(5) {
		case 0:
			b = b[:c.Intn(len(b)+1)]
		case 1:
			b += string([]byte{byte(c.Intn(256))})
		case 2, 3:
			at := c.Intn(len(b))
			b = b[:at] + string([]byte{byte(c.Intn(256))}) + b[at+1:]
		}
		twins(t, b, n)
	}
	n.enough(t, 1000, "none", "at the end", "within")
}

// P18.3: every beginning of a program's bytes, with bytes behind it about which something turns. P18.5: none of those that are shorter is a program's.
func TestEachByteTurned(t *testing.T) {
	n := tally{}
	for seed := range int64(4) {
		c := newChance(seed)
		m := c.program()
		for len(m.Instrs) < 4 || len(m.Instrs) > 40 {
			m = c.program()
		}
		b := written(m)
		for at := range len(b) + 1 {
			if _, f := Decode([]byte(b[:at])); (f == api.Fault{}) != (at == len(b)) {
				t.Fatalf("%q: %v", b[:at], f)
			}
			for _, value := range []int{0, 1, 2, 3, 4, 7, 8, 9, 10, 17, 18, 19, 'V', 'B', '1', 'A', '/', 126, 127, 128, 129, 130, 136, 254, 255} {
				twins(t, b[:at]+string([]byte{byte(value)}), n)
				if at < len(b) {
					twins(t, b[:at]+string([]byte{byte(value)})+b[at+1:], n)
				}
			}
		}
	}
	n.enough(t, 1000, "none", "at the end", "within")
}

// P18.3: Decode of bytes that are any, behind a beginning that may be.
func TestAnyBytes(t *testing.T) {
	n := tally{}
	for seed := range int64(20000) {
		c := newChance(seed)
		var b strings.Builder
		b.WriteString("VB1"[:3-c.Intn(4)*c.Intn(2)*c.Intn(2)])
		for range c.Intn(30) {
			value := c.Intn(256)
			if !c.one(8) {
				value = []int{0, 0, 0, 1, 2, 8, 0x80, 0x81, 0xff, 18}[c.Intn(10)]
			}
			b.WriteByte(byte(value))
		}
		twins(t, b.String(), n)
	}
	n.enough(t, 1000, "at the end", "within")
}
