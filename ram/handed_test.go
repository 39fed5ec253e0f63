package ram

import (
	"cmp"
	"fmt"
	"reflect"
	"slices"
	"sync"
	"testing"

	"vestry/api"
)

// roomy: a copy of a thing, with room behind the end of each list.
func roomy[T any](x T) T { return withRoom(reflect.ValueOf(x)).Interface().(T) }

func withRoom(v reflect.Value) reflect.Value {
	twin := reflect.New(v.Type()).Elem()
	switch v.Kind() {
	case reflect.Struct:
		for i := range v.NumField() {
			twin.Field(i).Set(withRoom(v.Field(i)))
		}
	case reflect.Slice:
		twin.Set(reflect.MakeSlice(v.Type(), v.Len(), v.Len()+2))
		for i := range v.Len() {
			twin.Index(i).Set(withRoom(v.Index(i)))
		}
	default:
		twin.Set(v)
	}
	return twin
}

// span is where a list lies, with its room.
type span struct{ from, to uintptr }

// look goes through a thing: it writes down what stands there, behind the ends of lists, too, and where these lie.
func look(v reflect.Value, text *[]byte, spans *[]span) {
	switch v.Kind() {
	case reflect.Struct:
		for i := range v.NumField() {
			look(v.Field(i), text, spans)
		}
	case reflect.Slice:
		*text = fmt.Appendf(*text, "%d[", v.Len())
		if v.Cap() > 0 {
			*spans = append(*spans, span{v.Pointer(), v.Pointer() + uintptr(v.Cap())*v.Type().Elem().Size()})
		}
		for i := range v.Cap() {
			look(v.Slice(0, v.Cap()).Index(i), text, spans)
		}
	default:
		*text = fmt.Appendf(*text, "%#v,", v)
	}
}

// all: what stands in a thing, behind the ends of lists, too.
func all(x any) string {
	var text []byte
	look(reflect.ValueOf(x), &text, new([]span))
	return string(text)
}

// shares: whether two lists of these things have room in common.
func shares(things ...any) bool {
	var spans []span
	for _, x := range things {
		look(reflect.ValueOf(x), new([]byte), &spans)
	}
	slices.SortFunc(spans, func(a, b span) int { return cmp.Compare(a.from, b.from) })
	for i := 1; i < len(spans); i++ {
		if spans[i].from < spans[i-1].to {
			return true
		}
	}
	return false
}

// R4: programs and tuples are the same behind a call as ahead of it, and the answers share nothing with them, nor one list of them with another one.
func TestHandedIn(t *testing.T) {
	n := tally{}
	for seed := range int64(1000) {
		c := newChance(seed)
		m := c.program()
		if c.one(4) {
			c.wrong(&m)
		}
		in := c.tuples(m.Widths)
		m, in = roomy(m), roomy(in)
		ahead := all(m) + all(in)
		Check(m)
		Same(m, m)
		tight := Tight(m)
		out, _, e := Run(m, in, 200)
		if all(m)+all(in) != ahead {
			t.Fatalf("written into %s", progText(m))
		}
		if shares(m, in, tight, out) {
			t.Fatalf("%s\n%s\n%s share", progText(m), progText(tight), told(out))
		}
		n[fmt.Sprint(e, Same(m, tight))]++
	}
	n.enough(t, 15, "error 0 true", "error 0 false", "error 1 true", "error 19 false", "error 20 false")
}

// R4: an answer shares nothing either, where what was handed in shares lists with itself, and where values come to several places.
func TestHandedInShared(t *testing.T) {
	tuple := []api.Val{conOf("A", conOf("B", numOf(1)))}
	in := [][][]api.Val{{tuple, tuple}, {tuple}, nil, nil}
	two := built("C", reg(0), reg(0))
	m := program(2, seqOf(
		scanOf(0, 0, nil, putOf(2, reg(0)), putOf(3, two), matchOf(0, "A", 1, 1, putOf(2, reg(1)), putOf(2, built("D", reg(1), reg(1))))),
		mergeOf(3, 2), mergeOf(0, 3),
	), 1, 1, 1, 1)
	ahead := all(in)
	out, _, e := Run(m, in, 99)
	if e != api.OK || shares(out) || shares(out, in[1]) || all(in) != ahead || told(out[2:3]) != "$A($B(1)); $B(1); $D($B(1), $B(1))" {
		t.Errorf("%v: %s", e, told(out))
	}
	x := built("A", numeral(1))
	exprs := exprsOf(x, x)
	keys := keysOf(key(0, x))
	put := putOf(0, exprs...)
	kids := []api.RNode{put, put, scanOf(0, 0, keys, cmpOf("=", reg(1), numeral(1), put)), scanOf(0, 0, keys, put)}
	kids = append(kids, seqOf(kids...), loopOf([]int{0}, kids[:2]...))
	widths := []int{2, 2}
	twice := api.Ram{Widths: widths, Regs: 2, Main: seqOf(kids...)}
	before := all(twice)
	tight := Tight(twice)
	if !Check(twice) || shares(tight) || shares(tight, widths) || all(twice) != before || Same(tight, twice) {
		t.Errorf("%s", progText(tight))
	}
	twice.Regs = 0
	if tight = Tight(twice); Check(twice) || shares(tight) || !Same(tight, twice) {
		t.Errorf("%s", progText(tight))
	}
}

// R4: what is written into an answer turns no later one.
func TestNotKept(t *testing.T) {
	m, in := example(), rows("5 7; 4 8 |")
	in[0][1][1] = conOf("A", numOf(1))
	before := told(in)
	out, _, _ := Run(m, in, 99)
	want := told(out)
	for _, tuples := range out {
		for _, tuple := range tuples {
			for i := range tuple {
				clear(tuple[i].Args)
				tuple[i].N = 99
			}
		}
		clear(tuples)
	}
	if again, _, _ := Run(m, in, 99); told(again) != want || told(in) != before {
		t.Errorf("%s, %s", told(again), told(in))
	}
	tight := Tight(m)
	tight.Widths[0], tight.Main.Keys[0].X.N, tight.Main.Kids[0].Exprs[0].N = 7, 7, 7
	if again := Tight(m); m.Widths[0] != 2 || again.Main.Keys[0].X.N != 5 || again.Main.Kids[0].Exprs[0].N != 1 || !Same(m, example()) {
		t.Errorf("%s, %s", progText(m), progText(again))
	}
}

// R3, R4: one program, and tuples, may be handed in by several at one time.
func TestShared(t *testing.T) {
	m, in := closure(), rows("2 3; 3 4; 1 2; 4 1 | | |")
	want, steps, _ := Run(m, in, api.MaxFuel)
	tight := Tight(m)
	var group sync.WaitGroup
	for range 8 {
		group.Go(func() {
			for range 50 {
				out, n, e := Run(m, in, api.MaxFuel)
				if told(out) != told(want) || n != steps || e != api.OK || !Check(m) || !Same(Tight(m), tight) {
					t.Errorf("%s, %d, %v", told(out), n, e)
				}
			}
		})
	}
	group.Wait()
}
