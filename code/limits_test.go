package code

import (
	"math"
	"slices"
	"strings"
	"testing"

	"vestry/api"
)

// R1: programs and bytes far beyond all limits end soon.
func TestFarBeyond(t *testing.T) {
	const many = 1 << 20
	for name, c := range map[string]api.Code{
		"relations":    program(make([]int, many), 0, stop()),
		"wide ones":    program(slices.Repeat([]int{math.MaxInt}, many), math.MaxInt, stop()),
		"Instrs":       program(nil, 0, slices.Repeat(listOf(stop()), many)...),
		"values":       program(nil, 0, slices.Repeat(listOf(num(1)), 4096)...),
		"long texts":   program(nil, 1, append(slices.Repeat(listOf(txt(strings.Repeat("a", many/8)), let(0)), 2000), stop())...),
		"long words":   program(nil, 1, append(slices.Repeat(listOf(con(strings.Repeat("a", many/8), 0, 0), let(0)), 2000), stop())...),
		"long shapes":  program(nil, 1, append(slices.Repeat(listOf(match(0, strings.Repeat("a", many/8)+"/1", 0, 0)), 2000), stop())...),
		"long signs":   program(nil, 1, append(slices.Repeat(listOf(num(1), num(1), compare(strings.Repeat("=", many/8), 0)), 1000), stop())...),
		"long Ops":     program(nil, 1, slices.Repeat(listOf(api.Instr{Op: strings.Repeat("stop", many/8)}), 4096)...),
		"far places":   program(nil, 1, slices.Repeat(listOf(jump(math.MaxInt)), 4096)...),
		"far Args":     ended(nil, 1, con("A", math.MaxInt, 0)),
		"far sets":     ended([]int{8}, 1, open(0, 0, math.MaxInt)),
		"least sets":   ended([]int{8}, 1, open(0, 0, math.MinInt)),
		"far slots":    ended([]int{8}, 1, open(math.MaxInt, 0, 0)),
		"far relation": ended([]int{8}, 1, put(math.MaxInt)),
		"far C":        ended([]int{8}, 256, open(0, 0, 0), next(0, 0, math.MaxInt)),
		"least C":      ended([]int{8}, 256, open(0, 0, 0), next(0, 0, math.MinInt)),
		"far shape":    ended(nil, 256, match(0, "A/8", 0, math.MaxInt)),
		"least shape":  ended(nil, 256, match(0, "A/8", 0, math.MinInt)),
	} {
		may(t, name, c, false)
	}
	for name, b := range map[string]string{
		"zeros":      strings.Repeat("\x00", 8*many),
		"ends":       strings.Repeat("\xff", 8*many),
		"zeros, too": "VB1" + strings.Repeat("\x00", 8*many),
		"ends, too":  "VB1\x00\x00" + strings.Repeat("\xff", 8*many),
	} {
		want, f := decoded(b[:99])
		c, got := Decode([]byte(b))
		if got != f || !Same(c, want) {
			t.Errorf("%s: %v, want %v", name, got, f)
		}
	}
}

// R1: programs as great as they may be end soon, and are what they are.
func TestGreatPrograms(t *testing.T) {
	long := strings.Repeat("\xff", api.MaxText)
	word := strings.Repeat("A", api.MaxName)
	for name, pair := range map[string][]api.Instr{
		"nums":    listOf(num(math.MinInt), let(255)),
		"texts":   listOf(txt(long[:1000]), let(255)),
		"opens":   listOf(open(63, 127, 0), next(63, 4094, 248)),
		"matches": listOf(match(255, word+"/8", 4094, 248), match(255, word+"/0", 4094, 256)),
		"cons":    listOf(con(word, 0, 4094), let(0)),
		"jumps":   listOf(jump(4094), merge(127, 127)),
	} {
		c := program(slices.Repeat([]int{8}, 128), 256, slices.Repeat(pair, 2047)...)
		c.Instrs = append(c.Instrs, clr(127), stop())
		may(t, name, c, true)
		if b, _ := Encode(c); string(b) != written(c) {
			t.Errorf("%s: %d bytes", name, len(b))
		}
	}
	// As many ops as there may be, on a full stack.
	sums := slices.Concat(slices.Repeat(listOf(num(1)), 64), slices.Repeat(listOf(opr("%", 0)), 63), listOf(let(0)))
	may(t, "ops", program(nil, 1, append(slices.Repeat(sums, 31), stop())...), true)
	// Great texts.
	may(t, "great texts", program(nil, 1, append(slices.Repeat(listOf(txt(long), let(0)), 200), stop())...), true)
}

// P18.3, R1: what each beginning of a great program's bytes is, is told soon.
func TestGreatBytes(t *testing.T) {
	c := program(slices.Repeat([]int{8}, 128), 256, slices.Repeat(listOf(txt(strings.Repeat("\xff", 9)), let(255)), 2047)...)
	c.Instrs = append(c.Instrs, stop())
	b := written(c)
	for size := 0; size < len(b); size += 17 {
		fails(t, "a beginning", b[:size], size)
	}
	may(t, "all of it", c, true)
}
