package term

import (
	"math"
	"strconv"
	"strings"
	"testing"

	"vestry/api"
)

// puts: Put answers this number, and no error; Get and Back then know it.
func puts(t *testing.T, s *Store, v api.Val, want int) {
	t.Helper()
	if n, e := s.Put(v); n != want || e != api.OK {
		t.Fatalf("Put(%.40s): %d, %v; want %d", Text(v), n, e, want)
	}
	if n, there := s.Get(v); n != want || !there {
		t.Fatalf("Get(%.40s): %d, %v; want %d, true", Text(v), n, there, want)
	}
	if w, there := s.Back(v.Kind, want); !there || !equal(w, v) {
		t.Fatalf("Back(%d, %d): %.40s, %v; want %.40s", v.Kind, want, Text(w), there, Text(v))
	}
}

func refuses(t *testing.T, s *Store, v api.Val, want api.Errno) {
	t.Helper()
	if n, e := s.Put(v); n != 0 || e != want {
		t.Fatalf("Put(%.40s): %d, %v; want 0, %v", Text(v), n, e, want)
	}
}

func hasNot(t *testing.T, s *Store, v api.Val) {
	t.Helper()
	if n, there := s.Get(v); n != 0 || there {
		t.Fatalf("Get(%.40s): %d, %v; want 0, false", Text(v), n, there)
	}
}

func backHasNot(t *testing.T, s *Store, kind, n int) {
	t.Helper()
	if v, there := s.Back(kind, n); there || !equal(v, api.Val{}) {
		t.Fatalf("Back(%d, %d): %.40s, %v; want nothing", kind, n, Text(v), there)
	}
}

// counts: how many Syms and Cons there are, by all that tells it.
func counts(t *testing.T, s *Store, syms, cons int) {
	t.Helper()
	if s.Len() != cons {
		t.Fatalf("Len: %d, want %d", s.Len(), cons)
	}
	for _, c := range []struct{ kind, n int }{{api.Sym, syms}, {api.Con, cons}} {
		backHasNot(t, s, c.kind, c.n)
		if c.n > 0 {
			if _, there := s.Back(c.kind, c.n-1); !there {
				t.Fatalf("Back(%d, %d): nothing", c.kind, c.n-1)
			}
		}
	}
}

// fullOfCons: a store with MaxSyms Cons, C0() and on, and no Sym.
func fullOfCons(t *testing.T) *Store {
	t.Helper()
	s := New()
	for i := range api.MaxSyms {
		if n, e := s.Put(con("C" + strconv.Itoa(i))); n != i || e != api.OK {
			t.Fatalf("Con %d: %d, %v", i, n, e)
		}
	}
	return s
}

// fullOfSyms: a store with MaxSyms Syms, s0 and on, and no Con.
func fullOfSyms(t *testing.T) *Store {
	t.Helper()
	s := New()
	for i := range api.MaxSyms {
		if n, e := s.Put(symbol("s" + strconv.Itoa(i))); n != i || e != api.OK {
			t.Fatalf("Sym %d: %d, %v", i, n, e)
		}
	}
	return s
}

// P3.3: the chapter's example.
func TestStoreExample(t *testing.T) {
	s := New()
	a := con("A")
	puts(t, s, a, 0)
	puts(t, s, con("B", a), 1)
	puts(t, s, a, 0)
	counts(t, s, 0, 2)
}

// P3.3: a new store has no Syms and Cons, and all Nums.
func TestNewStore(t *testing.T) {
	s := New()
	counts(t, s, 0, 0)
	hasNot(t, s, symbol(""))
	hasNot(t, s, symbol("a"))
	hasNot(t, s, con("A"))
	hasNot(t, s, con("A", number(1)))
	for _, n := range []int{0, 1, -1, math.MinInt64, math.MaxInt64} {
		if m, there := s.Get(number(n)); m != n || !there {
			t.Errorf("Get of the Num %d: %d, %v", n, m, there)
		}
		puts(t, s, number(n), n)
	}
	counts(t, s, 0, 0)
	if other := New(); other == s {
		t.Error("New gave one store twice")
	}
}

// P3.3: Syms have their table's numbers, in the order in which they come; a Con's word takes none of them.
func TestSymNumbers(t *testing.T) {
	s := New()
	puts(t, s, symbol("b"), 0)
	puts(t, s, con("a", symbol("c"), symbol("b")), 0)
	puts(t, s, symbol("a"), 2)
	puts(t, s, symbol(""), 3)
	puts(t, s, symbol("c"), 1)
	puts(t, s, symbol("b"), 0)
	counts(t, s, 4, 1)
	hasNot(t, s, symbol("d"))
}

// P3.3: the Args come first, from the left, each of them once.
func TestArgsComeFirst(t *testing.T) {
	s := New()
	v := con("R", con("X", con("Y"), symbol("p")), con("Y"), con("Z", symbol("q"), con("X", con("Y"), symbol("p"))), symbol("p"))
	puts(t, s, v, 3)
	for want, w := range []api.Val{con("Y"), con("X", con("Y"), symbol("p")), con("Z", symbol("q"), con("X", con("Y"), symbol("p"))), v} {
		if n, there := s.Get(w); n != want || !there {
			t.Errorf("Get(%s): %d, %v; want %d", Text(w), n, there, want)
		}
	}
	for want, text := range []string{"p", "q"} {
		if n, there := s.Get(symbol(text)); n != want || !there {
			t.Errorf("Get(%q): %d, %v; want %d", text, n, there, want)
		}
	}
	counts(t, s, 2, 4)
}

// P3.3: what is not there is not made by asking.
func TestGetMakesNothing(t *testing.T) {
	s := New()
	puts(t, s, con("A", symbol("a")), 0)
	for _, v := range []api.Val{symbol("b"), con("B"), con("A"), con("A", symbol("b")), con("A", con("A", symbol("a"))), con("A", symbol("a"), symbol("a")), con("B", symbol("a")), con("A", number(0)), con("A", number(0), con("C", symbol("d")))} {
		hasNot(t, s, v)
	}
	counts(t, s, 1, 1)
	backHasNot(t, s, api.Sym, 1)
}

// P3.3: of a value that may not be there is ErrArg, and nothing of it comes.
func TestPutOfWrong(t *testing.T) {
	s := New()
	puts(t, s, con("A", symbol("a")), 0)
	for i, v := range wrong() {
		refuses(t, s, v, api.ErrArg)
		refuses(t, s, con("New", symbol("new"), con("Newer"), v), api.ErrArg)
		hasNot(t, s, v)
		hasNot(t, s, con("A", v))
		if s.Len() != 1 {
			t.Fatalf("wrong value %d came", i)
		}
	}
	hasNot(t, s, symbol("new"))
	hasNot(t, s, con("Newer"))
	hasNot(t, s, api.Val{Kind: api.Num, N: 5, S: "x"})
	counts(t, s, 1, 1)
}

// P3.3: a nil store, and one that New did not give, has nothing, and no Nums.
func TestStoresThatNobodyMade(t *testing.T) {
	for _, s := range []*Store{nil, {}, new(Store)} {
		for _, v := range []api.Val{number(0), number(5), symbol(""), con("A"), con("A", number(1)), {}, {Kind: 7}, con("")} {
			refuses(t, s, v, api.ErrNil)
			hasNot(t, s, v)
		}
		for _, kind := range []int{api.Num, api.Sym, api.Con, 0, 4} {
			for _, n := range []int{0, 1, -1} {
				backHasNot(t, s, kind, n)
			}
		}
		if s.Len() != 0 {
			t.Errorf("Len: %d", s.Len())
		}
	}
}

// P3.3: numbers below 0 and past the end, and kinds that are none.
func TestBackOfNothing(t *testing.T) {
	s := New()
	puts(t, s, con("A", symbol("a")), 0)
	puts(t, s, con("B", symbol("b")), 1)
	for _, n := range []int{-1, -2, 2, 3, math.MinInt64, math.MaxInt64} {
		backHasNot(t, s, api.Sym, n)
		backHasNot(t, s, api.Con, n)
	}
	for _, kind := range []int{0, 4, -1, math.MinInt64, math.MaxInt64} {
		for _, n := range []int{0, 1, -1} {
			backHasNot(t, s, kind, n)
		}
	}
	for _, n := range []int{0, 7, -7, math.MinInt64, math.MaxInt64} {
		if v, there := s.Back(api.Num, n); !there || !equal(v, number(n)) {
			t.Errorf("Back of the Num %d: %v, %v", n, v, there)
		}
	}
}

// P3.3: a store with MaxSyms Cons takes no more; what it has keeps its numbers, and what came of the Args stays.
func TestFullOfCons(t *testing.T) {
	s := fullOfCons(t)
	counts(t, s, 0, api.MaxSyms)
	refuses(t, s, con("New"), api.ErrFull)
	refuses(t, s, con("C0", number(1)), api.ErrFull)
	counts(t, s, 0, api.MaxSyms)
	puts(t, s, con("C0"), 0)
	puts(t, s, con("C"+strconv.Itoa(api.MaxSyms-1)), api.MaxSyms-1)
	refuses(t, s, con("C0", symbol("a"), con("C1"), symbol("b"), con("New", symbol("c")), symbol("d")), api.ErrFull)
	counts(t, s, 3, api.MaxSyms)
	for want, text := range []string{"a", "b", "c"} {
		puts(t, s, symbol(text), want)
	}
	hasNot(t, s, symbol("d"))
	hasNot(t, s, con("New", symbol("c")))
	refuses(t, s, api.Val{}, api.ErrArg)
	puts(t, s, number(-3), -3)
	puts(t, s, symbol("d"), 3)
}

// P3.3: the last Con that has room, where its Args take the room ahead of it.
func TestLastRoomForCons(t *testing.T) {
	s := New()
	for i := range api.MaxSyms - 1 {
		if _, e := s.Put(con("C", number(i))); e != api.OK {
			t.Fatalf("Con %d: %v", i, e)
		}
	}
	refuses(t, s, con("B", con("A")), api.ErrFull)
	counts(t, s, 0, api.MaxSyms)
	puts(t, s, con("A"), api.MaxSyms-1)
	hasNot(t, s, con("B", con("A")))
	refuses(t, s, con("B"), api.ErrFull)
}

// P3.3: a full table takes no more Syms; Cons of those that it has still come, and what came of the Args stays.
func TestFullTable(t *testing.T) {
	s := fullOfSyms(t)
	counts(t, s, api.MaxSyms, 0)
	refuses(t, s, symbol("new"), api.ErrFull)
	puts(t, s, symbol("s0"), 0)
	puts(t, s, symbol("s"+strconv.Itoa(api.MaxSyms-1)), api.MaxSyms-1)
	refuses(t, s, con("R", con("A", symbol("s7")), symbol("new"), con("B")), api.ErrFull)
	counts(t, s, api.MaxSyms, 1)
	puts(t, s, con("A", symbol("s7")), 0)
	hasNot(t, s, con("B"))
	hasNot(t, s, symbol("new"))
	puts(t, s, con("B"), 1)
	refuses(t, s, con("D", con("E", symbol("new"))), api.ErrFull)
	counts(t, s, api.MaxSyms, 2)
	puts(t, s, con("E", symbol("s1"), number(1)), 2)
}

// P3.3: the room is that of Cons, not of their words, and not of Syms.
func TestRoomOfOneWord(t *testing.T) {
	s := New()
	for i := range api.MaxSyms {
		v := con("C", symbol("s"+strconv.Itoa(i)))
		if n, e := s.Put(v); n != i || e != api.OK {
			t.Fatalf("Con %d: %d, %v", i, n, e)
		}
	}
	counts(t, s, api.MaxSyms, api.MaxSyms)
	refuses(t, s, con("C", symbol("t")), api.ErrFull)
	refuses(t, s, con("C", number(1)), api.ErrFull)
	puts(t, s, con("C", symbol("s9")), 9)
}

// P3.5: Back of Put is the value, and unlike values have unlike numbers of one kind.
func TestNumbersAreOne(t *testing.T) {
	s := New()
	seen := map[[2]int]api.Val{}
	for range 2 {
		for _, v := range append(rising(), small()...) {
			n, e := s.Put(v)
			if e != api.OK {
				t.Fatalf("Put(%.40s): %v", Text(v), e)
			}
			if w, there := s.Back(v.Kind, n); !there || !equal(v, w) || !Same(v, w) {
				t.Errorf("Back of Put(%.40s): %.40s, %v", Text(v), Text(w), there)
			}
			key := [2]int{v.Kind, n}
			if w, there := seen[key]; there && !equal(v, w) {
				t.Errorf("%.40s and %.40s have one number", Text(v), Text(w))
			}
			seen[key] = v
		}
	}
	cons := 0
	for key, v := range seen {
		if n, there := s.Get(v); n != key[1] || !there {
			t.Errorf("Get(%.40s): %d, %v; want %d", Text(v), n, there, key[1])
		}
		if key[0] == api.Con {
			cons++
		}
	}
	// What was not put itself came as an Arg of what was: every number up to the last one has a value.
	for n := range s.Len() {
		if v, there := s.Back(api.Con, n); !there || !Right(v) {
			t.Errorf("Back(Con, %d): %v", n, there)
		}
	}
	if cons > s.Len() {
		t.Errorf("%d Cons, Len %d", cons, s.Len())
	}
}

// P3.5: values whose parts have like numbers, and are unlike.
func TestKeysDoNotRunTogether(t *testing.T) {
	s := New()
	puts(t, s, symbol("zero"), 0)
	puts(t, s, con("A"), 0)
	list := []api.Val{
		con("A", number(0)), con("A", symbol("zero")), con("A", con("A")),
		con("A", number(0), number(0)), con("B"), con("B", number(0)),
		con("A", number(1), number(0)), con("A", number(0), number(1)), con("A", number(1)), con("A", number(-1)),
		con("A", number(0), symbol("zero")), con("A", symbol("zero"), number(0)),
	}
	for i, v := range list {
		hasNot(t, s, v)
		puts(t, s, v, i+1)
	}
	for i, v := range list {
		puts(t, s, v, i+1)
	}
	counts(t, s, 1, len(list)+1)
}

// P3.5: the largest values come and go whole.
func TestLargeValues(t *testing.T) {
	s := New()
	for _, v := range []api.Val{ofParts(api.MaxParts), nested(api.MaxDeep, number(1)), nested(api.MaxDeep), con(strings.Repeat("z", api.MaxName), repeated(api.MaxWidth, symbol(strings.Repeat("x", api.MaxText)))...)} {
		n, e := s.Put(v)
		w, there := s.Back(api.Con, n)
		if e != api.OK || !there || !equal(v, w) {
			t.Errorf("%.60s: %d, %v, %v", Text(v), n, e, there)
		}
	}
}

// R4: what was handed in may be written over behind the call.
func TestWrittenOverBehindPut(t *testing.T) {
	s := New()
	v := con("A", con("B", number(1)), symbol("x"))
	puts(t, s, v, 1)
	v.Args[0].Args[0] = number(2)
	v.Args[0].S = "C"
	v.Args[1] = symbol("y")
	if w, there := s.Back(api.Con, 1); !there || !equal(w, con("A", con("B", number(1)), symbol("x"))) {
		t.Errorf("Back: %s, %v", Text(w), there)
	}
	hasNot(t, s, v)
	puts(t, s, con("A", con("B", number(1)), symbol("x")), 1)
}

// R4: what was answered is the caller's, and no two parts of it share memory.
func TestWrittenOverBehindBack(t *testing.T) {
	s := New()
	want := con("A", con("B", number(1)), con("B", number(1)))
	puts(t, s, want, 1)
	one, _ := s.Back(api.Con, 1)
	two, _ := s.Back(api.Con, 1)
	one.Args[0].Args[0] = number(9)
	if !equal(one.Args[1], con("B", number(1))) {
		t.Errorf("the second Arg turned: %s", Text(one.Args[1]))
	}
	one.Args[1] = symbol("z")
	_ = append(one.Args[:1], number(8))
	if !equal(two, want) {
		t.Errorf("another answer turned: %s", Text(two))
	}
	if three, _ := s.Back(api.Con, 1); !equal(three, want) {
		t.Errorf("the store turned: %s", Text(three))
	}
	puts(t, s, want, 1)
	counts(t, s, 0, 2)
}

// R3: two stores know nothing of each other, and the same calls have the same answers.
func TestStoresAreApart(t *testing.T) {
	one, two := New(), New()
	puts(t, one, con("A", symbol("a")), 0)
	hasNot(t, two, symbol("a"))
	hasNot(t, two, con("A", symbol("a")))
	counts(t, two, 0, 0)
	puts(t, two, symbol("b"), 0)
	puts(t, two, con("B"), 0)
	puts(t, one, symbol("b"), 1)
	puts(t, one, con("B"), 1)
}

// A copy of a store is the store that New gave: both tell the same.
func TestCopiedStore(t *testing.T) {
	s := New()
	puts(t, s, con("A"), 0)
	other := *s
	puts(t, &other, con("B"), 1)
	puts(t, s, con("B"), 1)
	puts(t, s, con("C"), 2)
	puts(t, &other, con("D"), 3)
	counts(t, s, 0, 4)
}
