package code

import (
	"cmp"
	"fmt"
	"reflect"
	"slices"
	"strings"
	"sync"
	"testing"

	"vestry/api"
)

// roomy: a copy of a thing, with room behind the end of each list.
func roomy[T any](x T) T { return withRoom(reflect.ValueOf(x)).Interface().(T) }

func withRoom(v reflect.Value) reflect.Value {
	twin := reflect.New(v.Type()).Elem()
	switch v.Kind() {
	case reflect.Struct:
		for i := range v.NumField() {
			twin.Field(i).Set(withRoom(v.Field(i)))
		}
	case reflect.Slice:
		twin.Set(reflect.MakeSlice(v.Type(), v.Len(), v.Len()+2))
		for i := range v.Len() {
			twin.Index(i).Set(withRoom(v.Index(i)))
		}
	default:
		twin.Set(v)
	}
	return twin
}

// span is where a list lies, with its room.
type span struct{ from, to uintptr }

// look goes through a thing: it writes down what stands there, behind the ends of lists, too, and where these lie.
func look(v reflect.Value, text *[]byte, spans *[]span) {
	switch v.Kind() {
	case reflect.Struct:
		for i := range v.NumField() {
			look(v.Field(i), text, spans)
		}
	case reflect.Slice:
		*text = fmt.Appendf(*text, "%d[", v.Len())
		if v.Cap() > 0 {
			*spans = append(*spans, span{v.Pointer(), v.Pointer() + uintptr(v.Cap())*v.Type().Elem().Size()})
		}
		for i := range v.Cap() {
			look(v.Slice(0, v.Cap()).Index(i), text, spans)
		}
	default:
		*text = fmt.Appendf(*text, "%#v,", v)
	}
}

// all: what stands in a thing, behind the ends of lists, too.
func all(x any) string {
	var text []byte
	look(reflect.ValueOf(x), &text, new([]span))
	return string(text)
}

// shares: whether two lists of these things have room in common.
func shares(things ...any) bool {
	var spans []span
	for _, x := range things {
		look(reflect.ValueOf(x), new([]byte), &spans)
	}
	slices.SortFunc(spans, func(a, b span) int { return cmp.Compare(a.from, b.from) })
	for i := 1; i < len(spans); i++ {
		if spans[i].from < spans[i-1].to {
			return true
		}
	}
	return false
}

// R4: programs and bytes are the same behind a call as ahead of it, and the answers share nothing with them.
func TestHandedIn(t *testing.T) {
	n := tally{}
	for seed := range int64(1500) {
		c := newChance(seed)
		m := c.program()
		if c.one(3) {
			c.wrong(&m)
		}
		m = roomy(m)
		ahead := all(m)
		may, same := Check(m), Same(m, roomy(m))
		b, e := Encode(m)
		if all(m) != ahead || shares(m, b) || !same || may != (e == api.OK) {
			t.Fatalf("%s: %q", told(m), b)
		}
		if !may {
			b = []byte("VB1\x01\x02\x03")[:c.Intn(7)]
		}
		b = roomy(b)
		ahead = all(b)
		twin, f := Decode(b)
		if all(b) != ahead || shares(m, b, twin) || may != (f == api.Fault{}) {
			t.Fatalf("%s: %q, %v", told(twin), b, f)
		}
		n[fmt.Sprint(e)]++
	}
	n.enough(t, 100, "error 0", "error 21")
}

// R4: what is written into what was handed in, or into an answer, turns no other answer; texts, too.
func TestNotKept(t *testing.T) {
	c := closure()
	b, _ := Encode(c)
	want := string(b)
	clear(c.Widths)
	clear(c.Instrs)
	if string(b) != want {
		t.Errorf("%q, want %q", b, want)
	}
	twin, _ := Decode(b)
	text := told(twin)
	clear(b[:cap(b)])
	if told(twin) != text || text != told(closure()) {
		t.Errorf("%s, want %s", told(twin), text)
	}
	for range 2 {
		b, _ = Encode(closure())
		twin, _ = Decode(b)
		if string(b) != want || told(twin) != text {
			t.Errorf("%q, %s", b, told(twin))
		}
		clear(b)
		clear(twin.Widths)
		clear(twin.Instrs)
	}
}

// R4: two programs of one list, and one whose lists are each other's ends.
func TestSharedLists(t *testing.T) {
	widths := []int{2, 2, 2, 2, 2}
	all := listOf(clr(0), clr(1), stop(), clr(2), stop())
	a, b := program(widths[:3], 1, all[:3]...), program(widths[2:], 1, all[1:]...)
	for range 2 {
		x, e := Encode(a)
		y, other := Encode(b)
		if string(x) != written(a) || string(y) != written(b) || e != api.OK || other != api.OK || Same(a, b) || !Same(a, a) {
			t.Errorf("%q, %q", x, y)
		}
	}
	whole := []byte(written(a) + written(b))
	x, f := Decode(whole[:len(written(a))])
	y, other := Decode(whole[len(written(a)):])
	if !Same(x, a) || !Same(y, b) || f != (api.Fault{}) || other != (api.Fault{}) {
		t.Errorf("%s, %s", told(x), told(y))
	}
}

// R4, R6: calls at the same time that are handed the same.
func TestAtTheSameTime(t *testing.T) {
	c := closure()
	want := written(c)
	b := []byte(want)
	var all sync.WaitGroup
	texts := make([]string, 8)
	for i := range texts {
		all.Go(func() {
			var text strings.Builder
			for range 50 {
				bytes, e := Encode(c)
				twin, f := Decode(b)
				if string(bytes) != want || e != api.OK || f != (api.Fault{}) || !Same(twin, c) || !Check(c) {
					fmt.Fprintf(&text, "%q, %v, %v, %s", bytes, e, f, told(twin))
				}
			}
			texts[i] = text.String()
		})
	}
	all.Wait()
	for _, text := range texts {
		if text != "" {
			t.Error(text)
		}
	}
}
