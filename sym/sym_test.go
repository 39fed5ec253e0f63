package sym

import (
	"math"
	"slices"
	"strconv"
	"strings"
	"testing"

	"vestry/api"
)

// texts: the empty one, ones that begin one another, bytes that are no text, and signs beyond ASCII.
func texts() []string {
	return []string{"b", "", "a", "ab", "abc", "B", "\x00", "\x00\x00", "\xff", "\xfe\xff", "é", "日本", "a b", "\n", "0", "00", "Ab", "aB", "e\u0301", strings.Repeat("x", 70000), strings.Repeat("x", 70000) + "y"}
}

func filled(t *testing.T, list ...string) *Table {
	t.Helper()
	table := New()
	for want, s := range list {
		if n, e := table.Put(s); n != want || e != api.OK {
			t.Fatalf("Put(%.20q): %d, %v; want %d", s, n, e, want)
		}
	}
	return table
}

func full(t *testing.T) *Table {
	t.Helper()
	list := make([]string, api.MaxSyms)
	for i := range list {
		list[i] = "s" + strconv.Itoa(i)
	}
	return filled(t, list...)
}

// has: the table has these texts, and nothing else, by all of its calls.
func has(t *testing.T, table *Table, list ...string) {
	t.Helper()
	if table.Len() != len(list) {
		t.Fatalf("Len: %d, want %d", table.Len(), len(list))
	}
	for want, s := range list {
		if n, there := table.Get(s); n != want || !there {
			t.Fatalf("Get(%.20q): %d, %v; want %d, true", s, n, there, want)
		}
		if text, there := table.Text(want); text != s || !there {
			t.Fatalf("Text(%d): %.20q, %v; want %.20q, true", want, text, there, s)
		}
	}
	next := 0
	for n, s := range table.All() {
		if n != next || n >= len(list) || s != list[n] {
			t.Fatalf("All: %d, %.20q where %d should come", n, s, next)
		}
		next++
	}
	if next != len(list) {
		t.Fatalf("All: %d texts, want %d", next, len(list))
	}
}

// P2.1: the chapter's example.
func TestExample(t *testing.T) {
	table := New()
	for i, s := range []string{"b", "a", "b"} {
		if n, e := table.Put(s); n != i%2 || e != api.OK {
			t.Errorf("Put(%q): %d, %v", s, n, e)
		}
	}
	if !table.Less(1, 0) || table.Less(0, 1) {
		t.Error("Less of a and b")
	}
	has(t, table, "b", "a")
}

// P2.1: a new table has nothing.
func TestNewTableIsEmpty(t *testing.T) {
	table := New()
	has(t, table)
	if n, there := table.Get(""); n != 0 || there {
		t.Errorf("Get: %d, %v", n, there)
	}
	if text, there := table.Text(0); text != "" || there {
		t.Errorf("Text: %q, %v", text, there)
	}
	if table.Less(0, 0) {
		t.Error("Less of none")
	}
}

// P2.1, P2.3, P2.4: behind each Put all texts that came have the numbers that they got, and the others none.
func TestNumbersStay(t *testing.T) {
	list := texts()
	table := New()
	for i, s := range list {
		if n, there := table.Get(s); n != 0 || there {
			t.Fatalf("Get(%.20q) ahead of Put: %d, %v", s, n, there)
		}
		has(t, table, list[:i]...)
		if n, e := table.Put(s); n != i || e != api.OK {
			t.Fatalf("Put(%.20q): %d, %v; want %d", s, n, e, i)
		}
		for want, old := range list[:i+1] {
			if n, e := table.Put(old); n != want || e != api.OK {
				t.Fatalf("Put(%.20q) again: %d, %v; want %d", old, n, e, want)
			}
		}
	}
	has(t, table, list...)
}

// P2.1: no text has a number below 0 or past the end.
func TestNumbersWithoutText(t *testing.T) {
	table := filled(t, "x", "y")
	for _, n := range []int{-1, -2, 2, 3, api.MaxSyms, math.MinInt64, math.MaxInt64} {
		if text, there := table.Text(n); text != "" || there {
			t.Errorf("Text(%d): %q, %v", n, text, there)
		}
		if table.Less(n, 0) || table.Less(0, n) || table.Less(n, 1) || table.Less(1, n) || table.Less(n, n) {
			t.Errorf("Less with %d", n)
		}
	}
	has(t, table, "x", "y")
}

// P2.1: a text that is not there is not found, and does not come by being asked for.
func TestGetPutsNothing(t *testing.T) {
	table := filled(t, "x")
	for range 2 {
		if n, there := table.Get("y"); n != 0 || there {
			t.Errorf("Get: %d, %v", n, there)
		}
	}
	has(t, table, "x")
}

// P2.1, R7: a table with MaxSyms texts takes no new one, not by any number of tries, and knows the old ones.
func TestFullTable(t *testing.T) {
	table := full(t)
	for range 3 {
		if n, e := table.Put("new"); n != 0 || e != api.ErrFull {
			t.Fatalf("Put of a new one: %d, %v", n, e)
		}
		if n, e := table.Put(""); n != 0 || e != api.ErrFull {
			t.Fatalf("Put of the empty one: %d, %v", n, e)
		}
		if n, there := table.Get("new"); n != 0 || there {
			t.Fatalf("Get of a new one: %d, %v", n, there)
		}
	}
	for _, want := range []int{0, 1, api.MaxSyms / 2, api.MaxSyms - 1} {
		s := "s" + strconv.Itoa(want)
		if n, e := table.Put(s); n != want || e != api.OK {
			t.Fatalf("Put(%q): %d, %v", s, n, e)
		}
	}
	list := make([]string, 0, api.MaxSyms)
	for i := range api.MaxSyms {
		list = append(list, "s"+strconv.Itoa(i))
	}
	has(t, table, list...)
}

// P2.1: the last of MaxSyms texts comes.
func TestLastText(t *testing.T) {
	table := full(t)
	if text, there := table.Text(api.MaxSyms - 1); text != "s16383" || !there {
		t.Errorf("Text of the last: %q, %v", text, there)
	}
	if text, there := table.Text(api.MaxSyms); text != "" || there {
		t.Errorf("Text past the last: %q, %v", text, there)
	}
}

// P2.1: All goes over what there was when the going over began, though the table turns meanwhile.
func TestAllWhileTableTurns(t *testing.T) {
	table := filled(t, "x", "y", "z")
	want := []string{"x", "y", "z"}
	var got []string
	for n, s := range table.All() {
		if n != len(got) {
			t.Errorf("the number of %q: %d", s, n)
		}
		got = append(got, s)
		for i := range 5 {
			if _, e := table.Put(s + strconv.Itoa(i)); e != api.OK {
				t.Fatal(e)
			}
		}
	}
	if !slices.Equal(got, want) {
		t.Errorf("All: %q, want %q", got, want)
	}
	if table.Len() != 18 {
		t.Errorf("Len behind it: %d", table.Len())
	}
}

// P2.1: one All, gone over twice, begins twice.
func TestAllBegunAgain(t *testing.T) {
	table := filled(t, "x")
	all := table.All()
	if _, e := table.Put("y"); e != api.OK {
		t.Fatal(e)
	}
	for _, want := range [][]string{{"x", "y"}, {"x", "y", "z"}} {
		var got []string
		for _, s := range all {
			got = append(got, s)
		}
		if !slices.Equal(got, want) {
			t.Errorf("All: %q, want %q", got, want)
		}
		table.Put("z")
	}
}

// P2.1: All that is left early yields no more, and can be nested.
func TestAllLeftEarlyAndNested(t *testing.T) {
	list := []string{"x", "y", "z"}
	table := filled(t, list...)
	calls := 0
	table.All()(func(int, string) bool {
		calls++
		return calls < 2
	})
	if calls != 2 {
		t.Errorf("%d texts yielded behind two asked for", calls)
	}
	var pairs []string
	for _, a := range table.All() {
		for _, b := range table.All() {
			if b == "z" {
				break
			}
			pairs = append(pairs, a+b)
		}
	}
	if !slices.Equal(pairs, []string{"xx", "xy", "yx", "yy", "zx", "zy"}) {
		t.Errorf("nested: %q", pairs)
	}
	has(t, table, list...)
}

// ahead: the order of texts, told byte by byte.
func ahead(a, b string) bool {
	for i := 0; i < len(a) && i < len(b); i++ {
		if a[i] != b[i] {
			return a[i] < b[i]
		}
	}
	return len(a) < len(b)
}

// P2.1: Less is the order byte by byte, where one text begins the other one, too.
func TestLess(t *testing.T) {
	list := texts()
	table := filled(t, list...)
	for a := range list {
		for b := range list {
			if table.Less(a, b) != ahead(list[a], list[b]) {
				t.Errorf("Less of %.20q and %.20q: %v", list[a], list[b], table.Less(a, b))
			}
		}
	}
	two := filled(t, "ab", "a", "")
	if !two.Less(1, 0) || two.Less(0, 1) || !two.Less(2, 1) || two.Less(1, 2) || two.Less(0, 0) {
		t.Error("Less where one text begins the other one")
	}
}

// P2.2: a nil table, and one that New did not give, has nothing and takes nothing.
func TestTablesNobodyMade(t *testing.T) {
	for name, table := range map[string]*Table{"nil": nil, "zero": {}, "new": new(Table)} {
		t.Run(name, func(t *testing.T) {
			for range 2 {
				for _, s := range []string{"", "x"} {
					if n, e := table.Put(s); n != 0 || e != api.ErrNil {
						t.Errorf("Put(%q): %d, %v", s, n, e)
					}
					if n, there := table.Get(s); n != 0 || there {
						t.Errorf("Get(%q): %d, %v", s, n, there)
					}
				}
				for _, n := range []int{-1, 0, 1} {
					if text, there := table.Text(n); text != "" || there {
						t.Errorf("Text(%d): %q, %v", n, text, there)
					}
					if table.Less(n, 0) || table.Less(0, n) {
						t.Errorf("Less with %d", n)
					}
				}
				if table.Len() != 0 {
					t.Errorf("Len: %d", table.Len())
				}
				for n, s := range table.All() {
					t.Errorf("All: %d, %q", n, s)
				}
			}
		})
	}
}

// R3: tables know nothing of one another.
func TestTablesApart(t *testing.T) {
	one, two := filled(t, "x", "y"), filled(t, "y")
	has(t, one, "x", "y")
	has(t, two, "y")
}

// P2.3, P2.4: a copy of a table is the same table, so that no two texts get one number.
func TestCopiedTable(t *testing.T) {
	one := filled(t, "x")
	two := *one
	if n, e := two.Put("y"); n != 1 || e != api.OK {
		t.Errorf("Put into the copy: %d, %v", n, e)
	}
	if n, e := one.Put("z"); n != 2 || e != api.OK {
		t.Errorf("Put into the first: %d, %v", n, e)
	}
	has(t, one, "x", "y", "z")
	has(t, &two, "x", "y", "z")
}
