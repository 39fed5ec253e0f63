package ram

import (
	"fmt"
	"testing"

	"vestry/api"
)

// P16.1: Check of programs by chance, of which something is turned mostly, is what the chapter says.
func TestCheckByChance(t *testing.T) {
	n := tally{}
	for seed := range int64(9000) {
		c := newChance(seed)
		m := c.program()
		m = roomy(m)
		for range c.Intn(3) {
			c.wrong(&m)
		}
		names := broken(m)
		if got := Check(m); got != (len(names) == 0) {
			t.Fatalf("%v, want %v\n%s", got, names, progText(m))
		}
		// Each law, where it alone is broken.
		if len(names) == 1 {
			n[names[0]]++
		}
		if len(names) == 0 {
			n["may be"]++
		}
	}
	n.enough(t, 1000, "may be")
	n.enough(t, 1, "Other of a match")
	n.enough(t, 5, "registers", "kinds", "expr kinds", "Rel", "Other", "Rels", "Cols", "Exprs", "From", "word of a match", "words",
		"comparisons", "operators", "asked for", "matched", "Kids", "Kids of exprs", "needless")
}

// P16.2: Run of programs by chance is what the chapter says. P16.5: more fuel turns nothing but ErrFuel.
func TestRunByChance(t *testing.T) {
	n := tally{}
	for seed := range int64(7000) {
		c := newChance(seed)
		m := c.program()
		if c.one(20) {
			c.wrong(&m)
		}
		in := c.tuples(m.Widths)
		fuel := 20 + c.Intn(200)
		want, steps, wantError := doing(m, in, fuel)
		out, got, e := Run(m, in, fuel)
		if told(out) != told(want) || got != steps || e != wantError {
			t.Fatalf("%s\nover %s, %d fuel: %s, %d, %v; want %s, %d, %v", progText(m), told(in), fuel, told(out), got, e, told(want), steps, wantError)
		}
		n[fmt.Sprint(e)]++
		if e == api.ErrArg {
			continue
		}
		for _, less := range []int{0, 1, got / 2, got - 1, got, got + 1, fuel} {
			out, steps, few := Run(m, in, less)
			if less < got && (out != nil || steps != less || few != api.ErrFuel) {
				t.Fatalf("%s\nover %s: %d of %d fuel: %d, %v", progText(m), told(in), less, got, steps, few)
			}
			if less >= got && e != api.ErrFuel && (told(out) != told(want) || steps != got || few != e) {
				t.Fatalf("%s\nover %s: %d of %d fuel: %d, %v", progText(m), told(in), less, got, steps, few)
			}
		}
	}
	n.enough(t, 150, "error 0", "error 1", "error 19", "error 20")
}

// P16.3: Tight of programs by chance is what the chapter says. P16.6: Tight of it is the same.
func TestTightByChance(t *testing.T) {
	n := tally{}
	for seed := range int64(9000) {
		c := newChance(seed)
		m := c.program()
		want := roomy(m)
		tightByWords(want.Widths, &want.Main)
		got := Tight(m)
		if !Same(got, want) {
			t.Fatalf("%s\n%s, want\n%s", progText(m), progText(got), progText(want))
		}
		if !Same(Tight(got), got) {
			t.Fatalf("%s\nis not tight", progText(got))
		}
		n[fmt.Sprint("turned ", !Same(got, m))]++
	}
	n.enough(t, 2000, "turned true", "turned false")
}

// P16.4: Tight of a program that may be may be, and comes to the same tuples and error, unless one has no fuel left. (Registers stay as they are set, so that this is told of scans that set none that a node around them sets: behind those it can be seen which tuples they did their Kids for.)
func TestTightMeansTheSame(t *testing.T) {
	n := tally{}
	for seed := range int64(8000) {
		c := newChance(seed)
		c.apart = true
		m := c.program()
		tight := Tight(m)
		if !Check(m) || !Check(tight) {
			t.Fatalf("%s\n%s may not be", progText(m), progText(tight))
		}
		for range 3 {
			in := c.tuples(m.Widths)
			out, steps, e := Run(m, in, 1000)
			twin, tightSteps, tightError := Run(tight, in, 1000)
			if e == api.ErrFuel || tightError == api.ErrFuel {
				n["no fuel"]++
				continue
			}
			if told(out) != told(twin) || e != tightError {
				t.Fatalf("%s\n%s\nover %s: %s, %v; %s, %v", progText(m), progText(tight), told(in), told(out), e, told(twin), tightError)
			}
			n[fmt.Sprint(e, steps != tightSteps)]++
		}
	}
	n.enough(t, 500, "error 0 false", "error 0 true", "error 19 true")
}
