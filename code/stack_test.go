package code

import (
	"slices"
	"strconv"
	"testing"

	"vestry/api"
)

// takers: of each Op the instructions that take a number of values, by that number.
func takers() map[int][]api.Instr {
	all := map[int][]api.Instr{
		0: {open(0, 2, 0), next(1, 0, 0), match(0, "A/0", 0, 0), some(0, 0), jump(0), clr(0), swap(2, 3), merge(2, 3), stop(), open(0, 0, 0)},
		1: {let(0), open(0, 1, 1), open(0, 2, 2), open(0, 4, 128)},
		2: {compare("=", 0), open(0, 2, 3), open(0, 4, 6)},
		8: {open(0, 4, 255)},
	}
	for rel, width := range widths() {
		all[width] = append(all[width], has(rel, 0), not(rel, 0), put(rel))
	}
	return all
}

// P18.1: what puts nothing finds just as many values as it takes.
func TestJustAsMany(t *testing.T) {
	for takes, all := range takers() {
		for _, x := range all {
			for lie := range 10 {
				list := append(append(listOf(open(1, 2, 0)), slices.Repeat(listOf(num(1)), lie)...), x)
				may(t, x.Op+" and "+strconv.Itoa(lie), ended(widths(), 4, list...), lie == takes)
			}
		}
	}
}

// taken: instructions that take so many values, and put none.
func taken(lie int) []api.Instr {
	var all []api.Instr
	for lie > 8 {
		all, lie = append(all, con("A", 8, 0)), lie-7
	}
	return append(all, con("A", lie, 0), let(0))
}

// P18.1: what puts a value finds at least as many as it takes.
func TestAtLeastAsMany(t *testing.T) {
	for name, x := range map[string]struct {
		x     api.Instr
		takes int
	}{
		"num": {num(1), 0}, "text": {txt("a"), 0}, "reg": {reg(0), 0}, "op": {opr("+", 0), 2},
		"con of none": {con("A", 0, 0), 0}, "con of 1": {con("A", 1, 0), 1}, "con of 7": {con("A", 7, 0), 7}, "con of 8": {con("A", 8, 0), 8},
	} {
		for lie := range 20 {
			list := append(slices.Repeat(listOf(num(1)), lie), x.x)
			list = append(list, taken(max(lie-x.takes+1, 0))...)
			may(t, name+" and "+strconv.Itoa(lie), ended(nil, 4, list...), lie >= x.takes)
		}
	}
}

// P18.1: at most 64 values lie behind what puts one.
func TestDeepStack(t *testing.T) {
	for _, puts := range []api.Instr{num(1), txt(""), reg(3), con("A", 0, 0)} {
		for _, lie := range []int{1, 62, 63, 64, 65, 66, 128, 256} {
			list := append(slices.Repeat(listOf(puts), lie), taken(lie)...)
			may(t, puts.Op+" "+strconv.Itoa(lie)+" times", ended(nil, 4, list...), lie <= 64)
			list = append(append(slices.Repeat(listOf(num(1)), lie-1), puts), taken(lie)...)
			may(t, puts.Op+" as the last one of "+strconv.Itoa(lie), ended(nil, 4, list...), lie <= 64)
		}
	}
	// What takes and puts has room where others have none.
	full := slices.Repeat(listOf(num(1)), 64)
	may(t, "op on 64", ended(nil, 4, slices.Concat(full, listOf(opr("+", 0)), taken(63))...), true)
	may(t, "con of 1 on 64", ended(nil, 4, slices.Concat(full, listOf(con("A", 1, 0)), taken(64))...), true)
	may(t, "con of none on 64", ended(nil, 4, slices.Concat(full, listOf(con("A", 0, 0)), taken(65))...), false)
	may(t, "num on 64, and an op", ended(nil, 4, slices.Concat(full, listOf(num(1), opr("+", 0)), taken(64))...), false)
	may(t, "op and num on 64", ended(nil, 4, slices.Concat(full, listOf(opr("+", 0), num(1)), taken(64))...), true)
}

// P18.1: a place is the number of an Instr ahead of which no value lies; ahead, behind, or itself.
func TestPlaces(t *testing.T) {
	list := listOf(clr(1), open(0, 1, 0), num(1), num(2), compare("=", 0), num(3), num(4), num(5), con("A", 3, 0), let(0), jump(0), jump(0))
	bare := []int{0, 1, 2, 5, 10, 11}
	for at := range len(list) + 3 {
		want := slices.Contains(bare, at)
		for i, x := range list {
			switch x.Op {
			case "jump":
				x.A = at
			case "cmp", "con":
				x.B = at
			default:
				continue
			}
			c := program([]int{0, 2}, 4, slices.Clone(list)...)
			c.Instrs[i] = x
			may(t, x.Op+" to "+strconv.Itoa(at), c, want)
		}
	}
}

// P18.1: each Op that has a place, with each number of an Instr, with that of the one behind the last one, and with others.
func TestPlaceOfEachOp(t *testing.T) {
	for _, cells := range rows() {
		for i, number := range []string{"A", "B", "C"} {
			if cells[3+i] != "place" {
				continue
			}
			for at := range 9 {
				c := turned(cells[0], func(x *api.Instr) { *numbersOf(x)[number] = at })
				may(t, cells[0]+" to "+strconv.Itoa(at), c, at < len(c.Instrs) && liesAhead(c)[at] == 0)
			}
		}
	}
	for _, x := range []api.Instr{compare("=", 4094), has(1, 4094), not(1, 4094), some(1, 4094), jump(4094)} {
		lie := slices.Repeat(listOf(num(1)), max(takesAt(program([]int{0, 1}, 0), x), 0))
		for size := 4090; size <= 4096; size++ {
			c := program([]int{0, 1}, 0, append(lie, x)...)
			c.Instrs = append(c.Instrs, slices.Repeat(listOf(stop()), size-len(c.Instrs))...)
			may(t, x.Op+" far ahead", c, size > 4094)
		}
	}
}
