package btree

import (
	"iter"
	"math"
	"slices"
	"testing"

	"vestry/api"
)

// made: a set of that order with these tuples.
func made(t *testing.T, order []int, tuples ...[]int) *Set {
	t.Helper()
	s, e := New(order...)
	if s == nil || e != api.OK {
		t.Fatal("New", order, s, e)
	}
	for _, x := range tuples {
		if _, e := s.Insert(x...); e != api.OK {
			t.Fatal("Insert", x, e)
		}
	}
	return s
}

// told: what a going over tells, in its order.
func told(seq iter.Seq[[]int]) [][]int {
	var all [][]int
	for x := range seq {
		all = append(all, x)
	}
	return all
}

func same(a, b [][]int) bool {
	return slices.EqualFunc(a, b, slices.Equal)
}

// want: told by the going over are just these tuples.
func want(t *testing.T, what string, seq iter.Seq[[]int], tuples ...[]int) {
	t.Helper()
	if got := told(seq); !same(got, tuples) {
		t.Fatalf("%s: %v, want %v", what, got, tuples)
	}
}

// turned: a tuple's numbers in the order's columns.
func turned(order, x []int) []int {
	var list []int
	for _, column := range order {
		list = append(list, x[column])
	}
	return list
}

// sorted: the tuples once each, rising by the order.
func sorted(order []int, tuples [][]int) [][]int {
	list := slices.Clone(tuples)
	slices.SortFunc(list, func(a, b []int) int {
		return slices.Compare(turned(order, a), turned(order, b))
	})
	return slices.CompactFunc(list, slices.Equal)
}

// headed: those that are like the tuple in the first k columns of the order.
func headed(order []int, k int, like []int, tuples [][]int) [][]int {
	k = max(0, min(k, len(order)))
	var list [][]int
	for _, x := range tuples {
		if slices.Equal(turned(order, x)[:k], turned(order, like)[:k]) {
			list = append(list, x)
		}
	}
	return list
}

// notBelow: those that the order does not have ahead of the tuple.
func notBelow(order, low []int, tuples [][]int) [][]int {
	var list [][]int
	for _, x := range tuples {
		if slices.Compare(turned(order, x), turned(order, low)) >= 0 {
			list = append(list, x)
		}
	}
	return list
}

// grid: all tuples of a width whose numbers are among those given, the first column turning slowest.
func grid(width int, numbers ...int) [][]int {
	if width == 0 {
		return [][]int{{}}
	}
	var all [][]int
	for _, n := range numbers {
		for _, rest := range grid(width-1, numbers...) {
			all = append(all, append([]int{n}, rest...))
		}
	}
	return all
}

// permuted: all orders of a width.
func permuted(width int) [][]int {
	var columns []int
	for column := range width {
		columns = append(columns, column)
	}
	var all [][]int
	for _, list := range grid(width, columns...) {
		if once := slices.Sorted(slices.Values(list)); slices.Equal(once, columns) {
			all = append(all, list)
		}
	}
	return all
}

// strewn: the tuples, taken at steps of that many; each is taken once, if step and their number have no divisor in common.
func strewn(tuples [][]int, step int) [][]int {
	var list [][]int
	for i := range tuples {
		list = append(list, tuples[i*step%len(tuples)])
	}
	return list
}

// numbered: tuples (i, 0) for i from the first up to the last.
func numbered(first, last int) [][]int {
	var list [][]int
	for i := first; i <= last; i++ {
		list = append(list, []int{i, 0})
	}
	return list
}

// full: a set of order (0, 1) with as many tuples as there may be, (0, 0) to (2046, 0), the even ones.
func full(t *testing.T) *Set {
	t.Helper()
	s := made(t, []int{0, 1})
	for i := range api.MaxFacts {
		s.Insert(2*i, 0)
	}
	if s.Len() != 1024 {
		t.Fatal(s.Len())
	}
	return s
}

// sets: of each width 0 to 3 all orders, each with half of the tuples of a grid, strewn.
func sets(t *testing.T, visit func(order []int, kept, all [][]int, s *Set)) {
	t.Helper()
	for width := range 4 {
		all := grid(width, -3, 0, 2, math.MaxInt, math.MinInt)
		for _, order := range permuted(width) {
			var kept [][]int
			for i, x := range strewn(all, 7) {
				if i%2 == 0 {
					kept = append(kept, x)
				}
			}
			visit(order, kept, all, made(t, order, kept...))
		}
	}
}

// sound: the nodes are those of a tree of tuples: all leaves as deep, no node with more tuples than may be, and below the uppermost one none without.
func sound(t *testing.T, n *node, top bool) int {
	t.Helper()
	if n == nil {
		return 0
	}
	if len(n.tuples) > room || len(n.tuples) == 0 {
		t.Fatal("tuples of a node:", len(n.tuples))
	}
	if !top && len(n.tuples) < room/2 {
		t.Fatal("tuples of a lower node:", len(n.tuples))
	}
	if len(n.kids) == 0 {
		return 1
	}
	if len(n.kids) != len(n.tuples)+1 {
		t.Fatal("kids of a node:", len(n.kids), len(n.tuples))
	}
	deep := sound(t, n.kids[0], false)
	for _, kid := range n.kids {
		if sound(t, kid, false) != deep {
			t.Fatal("leaves that are not as deep")
		}
	}
	return deep + 1
}

// P5.1: every order up to 4 columns, and one of MaxWidth, gives a set without tuples.
func TestNew(t *testing.T) {
	all := [][]int{{7, 6, 5, 4, 3, 2, 1, 0}, {0, 1, 2, 3, 4, 5, 6, 7}, {3, 0, 7, 1, 6, 2, 5, 4}}
	for width := range 5 {
		all = append(all, permuted(width)...)
	}
	for _, order := range all {
		s := made(t, order)
		if s.Len() != 0 || !slices.Equal(s.Order(), order) {
			t.Fatal(order, s.Len(), s.Order())
		}
		want(t, "All", s.All())
		if s.Has(make([]int, len(order))...) {
			t.Fatal("a tuple from the beginning", order)
		}
	}
}

// P5.1: a list that is no order gives nil and ErrArg.
func TestNewOfNoOrder(t *testing.T) {
	for _, list := range [][]int{
		{1}, {-1}, {8}, {64}, {math.MinInt}, {math.MaxInt}, {0, 0}, {1, 1}, {0, 2}, {1, 2}, {0, -1}, {0, 1, 1}, {0, 1, 3}, {1, 2, 3}, {0, 1, 2, 3, 4, 5, 6, 6}, {0, 1, 2, 3, 4, 5, 6, 8}, {0, 1, 2, 3, 4, 5, 6, 7, 8}, {0, 1, 2, 3, 4, 5, 6, 7, 0}, make([]int, 9), make([]int, 1<<16),
	} {
		if s, e := New(list...); s != nil || e != api.ErrArg {
			t.Fatal(list, s, e)
		}
	}
}

// P5.1, P5.2: the example of the document.
func TestExample(t *testing.T) {
	s := made(t, []int{1, 0}, []int{1, 2}, []int{0, 3}, []int{5, 2})
	want(t, "All", s.All(), []int{1, 2}, []int{5, 2}, []int{0, 3})
	want(t, "Range", s.Range(1, 9, 2), []int{1, 2}, []int{5, 2})
}

// P5.1: Insert tells whether the tuple was not there, Has and Len follow, over all tuples of a grid.
func TestInsert(t *testing.T) {
	for width := range 4 {
		for _, order := range permuted(width) {
			s := made(t, order)
			all := strewn(grid(width, math.MinInt, -1, 0, 5, math.MaxInt), 3)
			for i, x := range all {
				for _, first := range []bool{true, false} {
					if s.Has(x...) == first {
						t.Fatal("Has", order, x, first)
					}
					if fresh, e := s.Insert(x...); fresh != first || e != api.OK {
						t.Fatal("Insert", order, x, fresh, e)
					}
					if s.Len() != i+1 || !slices.Equal(s.Order(), order) {
						t.Fatal("Len, Order", order, x, s.Len(), s.Order())
					}
				}
			}
			for _, x := range all {
				if !s.Has(x...) {
					t.Fatal("Has", order, x)
				}
			}
		}
	}
}

// P5.1: the order of width 0 and its one tuple.
func TestWidthNought(t *testing.T) {
	s := made(t, nil)
	if s.Has() || s.Len() != 0 || len(s.Order()) != 0 {
		t.Fatal(s.Has(), s.Len(), s.Order())
	}
	want(t, "All", s.All())
	for _, first := range []bool{true, false} {
		if fresh, e := s.Insert(); fresh != first || e != api.OK {
			t.Fatal(fresh, e)
		}
	}
	if !s.Has() || s.Len() != 1 || s.Has(0) {
		t.Fatal(s.Has(), s.Len(), s.Has(0))
	}
	want(t, "All", s.All(), []int{})
	want(t, "From", s.From(), []int{})
	for _, k := range []int{-1, 0, 1, 9} {
		want(t, "Range", s.Range(k), []int{})
	}
	want(t, "From of a longer one", s.From(0))
	want(t, "Range of a longer one", s.Range(0, 0))
	o := made(t, nil)
	if n, e := o.Merge(s); n != 1 || e != api.OK {
		t.Fatal(n, e)
	}
	s.Clear()
	if e := s.Swap(o); e != api.OK || s.Len() != 1 || o.Len() != 0 {
		t.Fatal(e, s.Len(), o.Len())
	}
}

// P5.1, P5.2: an order of MaxWidth columns.
func TestMaxWidth(t *testing.T) {
	order := []int{3, 0, 7, 1, 6, 2, 5, 4}
	all := grid(8, 0, 1)
	s := made(t, order, strewn(all, 101)...)
	rising := sorted(order, all)
	want(t, "All", s.All(), rising...)
	for k := -1; k <= 9; k++ {
		like := []int{1, 0, 1, 0, 1, 1, 0, 1}
		want(t, "Range", s.Range(k, like...), headed(order, k, like, rising)...)
		want(t, "From", s.From(like...), notBelow(order, like, rising)...)
	}
	if fresh, e := s.Insert(1, 1, 1, 1, 1, 1, 1, 1); fresh || e != api.OK {
		t.Fatal(fresh, e)
	}
	if fresh, e := s.Insert(1, 1, 1, 1, 1, 1, 1, 2); !fresh || e != api.OK {
		t.Fatal(fresh, e)
	}
}

// P5.1, P5.2: tuples that are shorter or longer than the order are refused, are not there, and go over nothing.
func TestTuplesThatDoNotFit(t *testing.T) {
	for width := range 4 {
		s := made(t, permuted(width)[0], grid(width, 0, 1)...)
		before := told(s.All())
		for _, length := range []int{0, 1, 2, 3, 4, 8, 9, 1 << 12} {
			if length == width {
				continue
			}
			x := make([]int, length)
			if fresh, e := s.Insert(x...); fresh || e != api.ErrWidth {
				t.Fatal("Insert", width, length, fresh, e)
			}
			if s.Has(x...) {
				t.Fatal("Has", width, length)
			}
			want(t, "From", s.From(x...))
			for _, k := range []int{math.MinInt, -1, 0, 1, width, length, math.MaxInt} {
				want(t, "Range", s.Range(k, x...))
			}
			want(t, "All behind it", s.All(), before...)
			if s.Len() != len(before) {
				t.Fatal("Len", s.Len())
			}
		}
	}
}

// P5.1, R1, R7: a set with MaxFacts tuples takes none that is new, knows those that are there, and refuses one that does not fit for its width.
func TestInsertIntoFullSet(t *testing.T) {
	s := full(t)
	before := told(s.All())
	for _, n := range []int{-1, 1, 777, 2045, 2047, 2048, math.MinInt, math.MaxInt} {
		if fresh, e := s.Insert(n, 0); fresh || e != api.ErrFull {
			t.Fatal(n, fresh, e)
		}
		if s.Has(n, 0) {
			t.Fatal("it came", n)
		}
	}
	for n := 0; n < 2048; n += 2 {
		if fresh, e := s.Insert(n, 0); fresh || e != api.OK {
			t.Fatal(n, fresh, e)
		}
	}
	if fresh, e := s.Insert(1); fresh || e != api.ErrWidth {
		t.Fatal(fresh, e)
	}
	if s.Len() != api.MaxFacts {
		t.Fatal(s.Len())
	}
	want(t, "All", s.All(), before...)
	s.Clear()
	if fresh, e := s.Insert(1, 0); !fresh || e != api.OK || s.Len() != 1 {
		t.Fatal("behind Clear", fresh, e, s.Len())
	}
}

// P5.1: the last tuple that has room comes.
func TestLastRoom(t *testing.T) {
	s := made(t, []int{0})
	for i := range 1024 {
		if fresh, e := s.Insert(-i); !fresh || e != api.OK || s.Len() != i+1 {
			t.Fatal(i, fresh, e, s.Len())
		}
	}
	if fresh, e := s.Insert(1); fresh || e != api.ErrFull {
		t.Fatal(fresh, e)
	}
}

// P5.2: All has the tuples rising by the order.
func TestAll(t *testing.T) {
	sets(t, func(order []int, kept, all [][]int, s *Set) {
		want(t, "All", s.All(), sorted(order, kept)...)
	})
}

// P5.2: Range of every tuple of the grid, there or not, at each k, below 1 and above the width too.
func TestRange(t *testing.T) {
	sets(t, func(order []int, kept, all [][]int, s *Set) {
		rising := sorted(order, kept)
		for _, like := range append(all, grid(len(order), 1)...) {
			for _, k := range []int{math.MinInt, -1, 0, 1, 2, 3, 4, 9, math.MaxInt} {
				want(t, "Range", s.Range(k, like...), headed(order, k, like, rising)...)
			}
		}
	})
}

// P5.2: From every tuple of the grid, there or not, below all and above all.
func TestFrom(t *testing.T) {
	sets(t, func(order []int, kept, all [][]int, s *Set) {
		rising := sorted(order, kept)
		for _, low := range append(all, grid(len(order), -4, 1, 3)...) {
			want(t, "From", s.From(low...), notBelow(order, low, rising)...)
		}
	})
	s := made(t, []int{1, 0}, []int{5, 1}, []int{4, 2})
	want(t, "one that is there", s.From(4, 2), []int{4, 2})
	want(t, "one that is not", s.From(6, 1), []int{4, 2})
	want(t, "below all", s.From(9, 0), []int{5, 1}, []int{4, 2})
	want(t, "above all", s.From(0, 3))
}

// P5.2: From and Range of a set whose tree has several levels, at each of its tuples and between them.
func TestGoingOverFullSet(t *testing.T) {
	s := full(t)
	rising := told(s.All())
	if len(rising) != 1024 {
		t.Fatal(len(rising))
	}
	for n := -1; n <= 2047; n++ {
		first := (n + 1) / 2
		want(t, "From", s.From(n, 0), rising[first:]...)
		if n >= 0 && n%2 == 0 {
			want(t, "Range", s.Range(1, n, 9), []int{n, 0})
		} else {
			want(t, "Range", s.Range(1, n, 9))
		}
	}
}

// P5.2: a going over that is left tells no more; the next one begins anew.
func TestGoingOverLeft(t *testing.T) {
	s := full(t)
	for _, seq := range []iter.Seq[[]int]{s.All(), s.Range(0, 7, 7), s.From(-1, 0)} {
		for _, most := range []int{1, 2, 15, 16, 17, 500, 1023, 1024} {
			var seen [][]int
			for x := range seq {
				seen = append(seen, x)
				if len(seen) == most {
					break
				}
			}
			if len(seen) != most || seen[most-1][0] != 2*(most-1) {
				t.Fatal(most, len(seen))
			}
		}
		if len(told(seq)) != 1024 {
			t.Fatal("begun again")
		}
	}
}

// P5.2: no more is yielded behind a yield that answers false, whoever calls.
func TestGoingOverLeftAtOnce(t *testing.T) {
	s := full(t)
	for _, seq := range []iter.Seq[[]int]{s.All(), s.Range(1, 8, 0), s.From(1000, 0)} {
		calls := 0
		seq(func([]int) bool { calls++; return false })
		if calls != 1 {
			t.Fatal(calls)
		}
	}
}

// P5.2: goings over within one another, of one value and of several.
func TestGoingOverNested(t *testing.T) {
	tuples := numbered(1, 40)
	s := made(t, []int{1, 0}, tuples...)
	all := s.All()
	outer := 0
	for x := range all {
		want(t, "the same value within", all, tuples...)
		want(t, "From within", s.From(x...), tuples[outer:]...)
		inner := 0
		for range s.Range(1, 0, 0) {
			if inner++; inner == 3 {
				break
			}
		}
		if !slices.Equal(x, tuples[outer]) {
			t.Fatal(x, tuples[outer])
		}
		outer++
	}
	if outer != len(tuples) {
		t.Fatal(outer)
	}
}

// during: what a going over tells, when something is done to the set as it tells the n-th tuple.
func during(seq iter.Seq[[]int], n int, do func()) [][]int {
	var all [][]int
	for x := range seq {
		if len(all) == n {
			do()
		}
		all = append(all, x)
	}
	return all
}

// P5.2: each goes over the tuples as they were when it began, whatever is done to the set meanwhile.
func TestGoingOverWhileTheSetTurns(t *testing.T) {
	turns := []struct {
		name  string
		do    func(s *Set)
		count int
	}{
		{"Insert", func(s *Set) {
			for i := range 400 {
				s.Insert(i, 1)
				s.Insert(-i, -1)
			}
		}, 900},
		{"Insert of one", func(s *Set) { s.Insert(99, 99) }, 101},
		{"Clear", func(s *Set) { s.Clear() }, 0},
		{"Clear and Insert", func(s *Set) { s.Clear(); s.Insert(3, 3) }, 1},
		{"Merge", func(s *Set) { s.Merge(made(t, []int{1, 0}, numbered(50, 300)...)) }, 300},
		{"Swap", func(s *Set) { s.Swap(made(t, []int{1, 0}, numbered(1, 7)...)) }, 7},
		{"Swap and Insert", func(s *Set) {
			o := made(t, []int{1, 0}, numbered(1, 7)...)
			s.Swap(o)
			o.Insert(2, 2)
			o.Clear()
		}, 7},
	}
	for _, turn := range turns {
		for n := range 100 {
			for which := range 3 {
				s := made(t, []int{0, 1}, numbered(1, 100)...)
				seq := []iter.Seq[[]int]{s.All(), s.Range(0, 5, 5), s.From(0, 0)}[which]
				if got := during(seq, n, func() { turn.do(s) }); !same(got, numbered(1, 100)) {
					t.Fatal(turn.name, n, which, got)
				}
				if s.Len() != turn.count || len(told(s.All())) != turn.count {
					t.Fatal(turn.name, s.Len())
				}
			}
		}
	}
}

// P5.2: a going over begins where it is gone over, not where it was asked for, and one that is begun again has what is there then.
func TestGoingOverBegunLater(t *testing.T) {
	s := made(t, []int{0, 1}, []int{1, 1})
	all, head, from := s.All(), s.Range(1, 1, 0), s.From(1, 0)
	s.Insert(1, 5)
	for _, seq := range []iter.Seq[[]int]{all, head, from} {
		want(t, "behind Insert", seq, []int{1, 1}, []int{1, 5})
	}
	s.Clear()
	for _, seq := range []iter.Seq[[]int]{all, head, from} {
		want(t, "behind Clear", seq)
	}
	s.Swap(made(t, []int{1, 0}, []int{1, 2}, []int{9, 0}, []int{2, 0}))
	want(t, "All behind Swap", all, []int{2, 0}, []int{9, 0}, []int{1, 2})
	want(t, "Range behind Swap", head, []int{2, 0}, []int{9, 0})
	want(t, "From behind Swap", from, []int{2, 0}, []int{9, 0}, []int{1, 2})
}

// P5.3: Merge puts the other's tuples in and tells how many were not there; the other stays.
func TestMerge(t *testing.T) {
	for _, order := range permuted(2) {
		for _, other := range permuted(2) {
			s := made(t, order, numbered(1, 60)...)
			o := made(t, other, numbered(41, 100)...)
			if n, e := s.Merge(o); n != 40 || e != api.OK {
				t.Fatal(n, e)
			}
			want(t, "s", s.All(), numbered(1, 100)...)
			want(t, "o", o.All(), numbered(41, 100)...)
			if !slices.Equal(s.Order(), order) || !slices.Equal(o.Order(), other) || s.Len() != 100 || o.Len() != 60 {
				t.Fatal(s.Order(), o.Order(), s.Len(), o.Len())
			}
			if n, e := s.Merge(o); n != 0 || e != api.OK {
				t.Fatal("again", n, e)
			}
			if n, e := s.Merge(made(t, other)); n != 0 || e != api.OK || s.Len() != 100 {
				t.Fatal("one without tuples", n, e)
			}
			s.Insert(500, 0)
			o.Insert(600, 0)
			if s.Has(600, 0) || o.Has(500, 0) {
				t.Fatal("they are not two any more")
			}
		}
	}
}

// P5.3, R7: where a tuple has no room, those ahead of it in o's order stay and are told; none behind it comes.
func TestMergeWithoutRoom(t *testing.T) {
	for _, order := range [][]int{{0, 1}, {1, 0}} {
		s := made(t, []int{0, 1})
		for i := range 1020 {
			s.Insert(10, i)
		}
		others := [][]int{{10, 3}, {1, 2000}, {2, 1999}, {3, 1998}, {4, 1997}, {5, 1996}, {6, 1995}, {10, 7}, {20, 5}}
		o := made(t, order, others...)
		if n, e := s.Merge(o); n != 4 || e != api.ErrFull {
			t.Fatal(n, e)
		}
		if s.Len() != 1024 || o.Len() != len(others) {
			t.Fatal(s.Len(), o.Len())
		}
		var fresh [][]int
		for _, x := range sorted(order, others) {
			if x[0] != 10 {
				fresh = append(fresh, x)
			}
		}
		for i, x := range fresh {
			if s.Has(x...) != (i < 4) {
				t.Fatal(order, i, x)
			}
		}
	}
}

// P5.3: the tuples of o that s has already take no room, ahead of the first new one and at the full set.
func TestMergeIntoFullSet(t *testing.T) {
	s := full(t)
	before := told(s.All())
	if n, e := s.Merge(made(t, []int{1, 0}, []int{0, 0}, []int{2046, 0})); n != 0 || e != api.OK {
		t.Fatal(n, e)
	}
	if n, e := s.Merge(made(t, []int{1, 0}, []int{0, 0}, []int{3, 0}, []int{2046, 0})); n != 0 || e != api.ErrFull {
		t.Fatal(n, e)
	}
	if n, e := s.Merge(s); n != 0 || e != api.OK {
		t.Fatal("itself", n, e)
	}
	if n, e := s.Merge(made(t, []int{0})); n != 0 || e != api.ErrWidth {
		t.Fatal("another width", n, e)
	}
	want(t, "All", s.All(), before...)
	o := made(t, []int{1, 0})
	if n, e := o.Merge(s); n != 1024 || e != api.OK {
		t.Fatal("a full one", n, e)
	}
	want(t, "o", o.All(), before...)
}

// P5.3: Swap changes tuples and orders, also unlike orders of one width.
func TestSwap(t *testing.T) {
	a := [][]int{{1, 2}, {0, 3}, {5, 2}}
	b := [][]int{{7, 7}, {8, 6}}
	for _, order := range permuted(2) {
		for _, other := range permuted(2) {
			s, o := made(t, order, a...), made(t, other, b...)
			if e := s.Swap(o); e != api.OK {
				t.Fatal(e)
			}
			want(t, "s", s.All(), sorted(other, b)...)
			want(t, "o", o.All(), sorted(order, a)...)
			if !slices.Equal(s.Order(), other) || !slices.Equal(o.Order(), order) || s.Len() != 2 || o.Len() != 3 {
				t.Fatal(s.Order(), o.Order(), s.Len(), o.Len())
			}
			s.Insert(7, 6)
			o.Insert(2, 2)
			want(t, "s behind Insert", s.All(), sorted(other, append(slices.Clone(b), []int{7, 6}))...)
			want(t, "o behind Insert", o.All(), sorted(order, append(slices.Clone(a), []int{2, 2}))...)
		}
	}
}

// P5.3: Merge and Swap of a set with itself leave it as it is.
func TestMergeAndSwapWithItself(t *testing.T) {
	for _, tuples := range [][][]int{nil, {{1, 2}}, numbered(1, 300)} {
		s := made(t, []int{1, 0}, tuples...)
		if n, e := s.Merge(s); n != 0 || e != api.OK {
			t.Fatal(n, e)
		}
		if e := s.Swap(s); e != api.OK {
			t.Fatal(e)
		}
		want(t, "All", s.All(), tuples...)
		if s.Len() != len(tuples) || !slices.Equal(s.Order(), []int{1, 0}) {
			t.Fatal(s.Len(), s.Order())
		}
	}
}

// P5.3, R7: sets of unlike widths are refused, and both stay.
func TestUnlikeWidths(t *testing.T) {
	for width := range 5 {
		for other := range 5 {
			if width == other {
				continue
			}
			s := made(t, permuted(width)[0], make([]int, width))
			o := made(t, permuted(other)[0], make([]int, other))
			if n, e := s.Merge(o); n != 0 || e != api.ErrWidth {
				t.Fatal("Merge", width, other, n, e)
			}
			if e := s.Swap(o); e != api.ErrWidth {
				t.Fatal("Swap", width, other, e)
			}
			if !s.Has(make([]int, width)...) || !o.Has(make([]int, other)...) || s.Len() != 1 || o.Len() != 1 || len(s.Order()) != width || len(o.Order()) != other {
				t.Fatal(width, other)
			}
			s.Clear()
			o.Clear()
			if n, e := s.Merge(o); n != 0 || e != api.ErrWidth {
				t.Fatal("Merge without tuples", width, other, n, e)
			}
		}
	}
}

// P5.3: Clear leaves a set of its order without tuples, which takes tuples again.
func TestClear(t *testing.T) {
	s := made(t, []int{1, 0}, numbered(1, 100)...)
	for range 2 {
		s.Clear()
		want(t, "All", s.All())
		want(t, "Range", s.Range(0, 1, 0))
		want(t, "From", s.From(-1, -1))
		if s.Len() != 0 || s.Has(1, 0) || !slices.Equal(s.Order(), []int{1, 0}) {
			t.Fatal(s.Len(), s.Has(1, 0), s.Order())
		}
	}
	for _, x := range [][]int{{1, 2}, {0, 3}, {5, 2}} {
		if fresh, e := s.Insert(x...); !fresh || e != api.OK {
			t.Fatal(x, fresh, e)
		}
	}
	want(t, "All again", s.All(), []int{1, 2}, []int{5, 2}, []int{0, 3})
}

// P5.4, R1, R5: a nil set and one that New did not give have nothing and take nothing, as receiver and as argument.
func TestNoSet(t *testing.T) {
	for _, s := range []*Set{nil, {}, new(Set)} {
		for _, x := range [][]int{nil, {0}, {1, 2}, make([]int, 9)} {
			if fresh, e := s.Insert(x...); fresh || e != api.ErrNil {
				t.Fatal("Insert", fresh, e)
			}
			if s.Has(x...) {
				t.Fatal("Has", x)
			}
			want(t, "From", s.From(x...))
			for _, k := range []int{-1, 0, 1, len(x), 9} {
				want(t, "Range", s.Range(k, x...))
			}
		}
		s.Clear()
		want(t, "All", s.All())
		if s.Len() != 0 || len(s.Order()) != 0 {
			t.Fatal(s.Len(), s.Order())
		}
		for _, width := range []int{0, 2} {
			o := made(t, permuted(width)[0], make([]int, width))
			for _, two := range [][2]*Set{{s, o}, {o, s}, {s, nil}, {s, {}}, {s, s}, {nil, s}} {
				if n, e := two[0].Merge(two[1]); n != 0 || e != api.ErrNil {
					t.Fatal("Merge", n, e)
				}
				if e := two[0].Swap(two[1]); e != api.ErrNil {
					t.Fatal("Swap", e)
				}
			}
			want(t, "the other one", o.All(), make([]int, width))
			if o.Len() != 1 || len(o.Order()) != width {
				t.Fatal(o.Len(), o.Order())
			}
		}
		if fresh, e := s.Insert(); fresh || e != api.ErrNil {
			t.Fatal("Insert behind all of it", fresh, e)
		}
	}
}

// P5.5: whatever the order in which tuples come, a set of them is one; its tree is sound.
func TestComingInAnyOrder(t *testing.T) {
	for _, order := range [][]int{{0, 1}, {1, 0}} {
		var all [][]int
		for i := range 1024 {
			all = append(all, []int{i % 32, i / 32})
		}
		rising := sorted(order, all)
		falling := slices.Clone(rising)
		slices.Reverse(falling)
		comings := [][][]int{rising, falling}
		for _, step := range []int{3, 31, 33, 101, 341, 513, 1023} {
			comings = append(comings, strewn(all, step))
		}
		for _, coming := range comings {
			s := made(t, order)
			for i, x := range coming {
				if fresh, e := s.Insert(x...); !fresh || e != api.OK {
					t.Fatal(x, fresh, e)
				}
				if i%37 == 0 {
					want(t, "on the way", s.All(), sorted(order, coming[:i+1])...)
				}
			}
			want(t, "All", s.All(), rising...)
			if s.Len() != 1024 {
				t.Fatal(s.Len())
			}
			if deep := sound(t, s.held.root, true); deep < 3 {
				t.Fatal("levels:", deep)
			}
		}
	}
}

// P5.5: all ways in which five tuples may come, some of them twice.
func TestComingInAllOrders(t *testing.T) {
	tuples := [][]int{{3, 1}, {1, 3}, {2, 2}, {1, 1}, {3, 3}}
	for _, order := range permuted(2) {
		for _, way := range permuted(5) {
			s := made(t, order)
			for _, i := range append(way, way[2], way[0]) {
				s.Insert(tuples[i]...)
			}
			want(t, "All", s.All(), sorted(order, tuples)...)
		}
	}
}

// P5.6: Range of k columns is what From begins with at the least tuple of that head, and Range of 0 columns is All.
func TestRangeIsTheBeginningOfFrom(t *testing.T) {
	sets(t, func(order []int, kept, all [][]int, s *Set) {
		for _, like := range all {
			for k := range len(order) + 1 {
				low := slices.Clone(like)
				for _, column := range order[k:] {
					low[column] = math.MinInt
				}
				head, from := told(s.Range(k, like...)), told(s.From(low...))
				if len(from) < len(head) || !same(head, from[:len(head)]) {
					t.Fatal(order, k, like, head, from)
				}
				if len(from) > len(head) && len(headed(order, k, like, from[len(head):])) > 0 {
					t.Fatal("it ends too soon", order, k, like)
				}
			}
			want(t, "Range of 0 columns", s.Range(0, like...), told(s.All())...)
		}
	})
}

// P5.7: sets of unlike orders have the same tuples behind the same Inserts.
func TestUnlikeOrdersHaveTheSameTuples(t *testing.T) {
	inserts := strewn(grid(3, -2, -1, 0, 1, 2, math.MaxInt), 53)
	plain := made(t, []int{0, 1, 2}, inserts[:150]...)
	for _, order := range permuted(3) {
		s := made(t, order, inserts[:150]...)
		if s.Len() != plain.Len() || !same(sorted([]int{0, 1, 2}, told(s.All())), told(plain.All())) {
			t.Fatal(order, s.Len())
		}
		for _, x := range inserts {
			if s.Has(x...) != plain.Has(x...) {
				t.Fatal(order, x)
			}
		}
	}
}

// R4: a list that was handed in may be written over behind the call.
func TestHandedInIsNotKept(t *testing.T) {
	order := []int{1, 0}
	s, _ := New(order...)
	order[0], order[1] = 0, 1
	x := []int{1, 2}
	for _, next := range [][]int{{0, 3}, {5, 2}, {-9, -9}} {
		s.Insert(x...)
		copy(x, next)
	}
	want(t, "All", s.All(), []int{1, 2}, []int{5, 2}, []int{0, 3})
	if s.Has(-9, -9) || !slices.Equal(s.Order(), []int{1, 0}) {
		t.Fatal(s.Order())
	}
	like, low := []int{9, 2}, []int{5, 2}
	head, from := s.Range(1, like...), s.From(low...)
	like[1], low[0], low[1] = 3, 9, 9
	want(t, "Range", head, []int{1, 2}, []int{5, 2})
	want(t, "From", from, []int{5, 2}, []int{0, 3})
	for range head {
		like[1] = 7
	}
	want(t, "Range again", head, []int{1, 2}, []int{5, 2})
}

// R4: no call writes into a list that it was handed.
func TestHandedInIsNotWritten(t *testing.T) {
	order, x := []int{1, 2, 0}, []int{4, 5, 6}
	s, _ := New(order...)
	s.Insert(4, 1, 1)
	s.Insert(x...)
	s.Has(x...)
	for _, k := range []int{-1, 0, 1, 2, 3, 4} {
		told(s.Range(k, x...))
	}
	told(s.From(x...))
	if !slices.Equal(order, []int{1, 2, 0}) || !slices.Equal(x, []int{4, 5, 6}) {
		t.Fatal(order, x)
	}
}

// R4: what is answered or yielded is the caller's, who may write into it and put more behind it.
func TestAnswersAreTheCallers(t *testing.T) {
	tuples := numbered(1, 50)
	s := made(t, []int{0, 1}, tuples...)
	order := s.Order()
	order[0], order[1] = 1, 0
	_ = append(order[:1], 5, 5, 5)
	for _, seq := range []iter.Seq[[]int]{s.All(), s.Range(1, 7, 0), s.Range(9, 7, 0), s.Range(0, 7, 7), s.From(20, 0)} {
		var kept [][]int
		for x := range seq {
			kept = append(kept, x)
			x[0], x[1] = 1000, 1000
			_ = append(x, 1, 2, 3, 4)
			_ = append(x[:1], 8, 8, 8, 8)
		}
		for i, x := range kept {
			x[0] = i
		}
		for i, x := range kept {
			if x[0] != i {
				t.Fatal("two of them share memory")
			}
		}
	}
	want(t, "All", s.All(), tuples...)
	if !slices.Equal(s.Order(), []int{0, 1}) || s.Has(1000, 1000) {
		t.Fatal(s.Order())
	}
}

// R4: Merge shares nothing between the sets that a caller could turn.
func TestMergeSharesNothing(t *testing.T) {
	s, o := made(t, []int{0, 1}), made(t, []int{1, 0}, numbered(1, 30)...)
	s.Merge(o)
	for x := range o.All() {
		x[0] = -1
	}
	for x := range s.All() {
		x[0] = -1
	}
	o.Clear()
	o.Insert(1, 1)
	want(t, "s", s.All(), numbered(1, 30)...)
	want(t, "o", o.All(), []int{1, 1})
}
