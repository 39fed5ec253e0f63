package lower

import (
	"slices"
	"testing"

	"vestry/api"
	"vestry/ram"
)

// P17.1: of programs by chance just those that are small are lowered; what comes may be, and has the program's relations first.
func TestLowerByChance(t *testing.T) {
	n := tally{}
	for seed := range int64(1500) {
		c := newChance(seed)
		p := c.either()
		for range c.Intn(3) {
			p = c.large(p)
		}
		if c.one(4) {
			p = c.wrong(p)
		}
		m, small := Lower(p)
		lack := lacks(p)
		n[lack]++
		right := small == (lack == "") && ram.Check(m) == small
		if !small {
			right = right && ram.Same(m, api.Ram{})
		}
		for i, d := range p.Decls {
			right = right && (!small || m.Widths[i] == len(d.Cols))
		}
		if !right {
			t.Fatalf("%v, want %q: the columns %v of\n%s", small, lack, m.Widths, shown(p))
		}
	}
	n.enough(t, 20, "", isNotTaken, isOfMany, isLargeLoop, isLargeElse)
}

// again: the facts in another order, some of them twice.
func (m chance) again(given []api.Fact) []api.Fact {
	all := slices.Clone(given)
	for range min(len(all), 5) {
		all = append(all, given[m.Intn(len(given))])
	}
	m.Shuffle(len(all), func(i, k int) { all[i], all[k] = all[k], all[i] })
	return all
}

// P17.2: a run of what a program by chance becomes leaves the facts of its model, or comes to a fault, if it faults, with MaxFuel at least where the document's own lowering ends within 2^13 steps. P17.4: so does a run of what Tight makes of it. P17.5: and one of facts in another order, or that come twice.
func TestMeaningByChance(t *testing.T) {
	n := tally{}
	for seed := range int64(2500) {
		c := newChance(seed)
		p := c.either()
		m, small := Lower(p)
		if !small {
			t.Fatalf("not small:\n%s", shown(p))
		}
		own := ownWay(p)
		tight := ram.Tight(m)
		for range 2 {
			given := c.facts(p)
			want, what := modelOf(p, given)
			n[what]++
			if what == isLarge {
				continue
			}
			_, steps, _ := ram.Run(own, laid(p, own, given), api.MaxFuel)
			for i, run := range []struct {
				of    api.Ram
				given []api.Fact
			}{{m, given}, {m, c.again(given)}, {tight, given}} {
				got, e := ran(p, run.of, run.given)
				if e == api.ErrFuel && steps > 1<<13 {
					n["no fuel"]++
					continue
				}
				right := slices.Equal(got, want) && e == api.OK
				if what == isFaulty {
					right = e == api.ErrFault || e == api.ErrFull
				}
				if !right {
					t.Fatalf("run %d of\n%s\nover %+v leaves\n%q, %v\nwant (%s)\n%q", i, shown(p), run.given, got, e, what, want)
				}
				if len(got) > len(run.given) {
					n["more facts"]++
				}
			}
			if steps <= 1<<13 {
				n["few steps"]++
			}
		}
	}
	n.enough(t, 1000, isThere, isFaulty, "more facts", "few steps")
}
