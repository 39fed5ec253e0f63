package rel

import (
	"iter"
	"math"
	"slices"
	"testing"

	"vestry/api"
)

// made: a relation of that width and those searches, without tuples.
func made(t *testing.T, width int, searches ...int) *Rel {
	t.Helper()
	r, e := New(width, searches...)
	if r == nil || e != api.OK {
		t.Fatal("New", width, searches, r, e)
	}
	return r
}

// with: a relation of that width and those searches, with these rows.
func with(t *testing.T, width int, searches []int, rows ...row) *Rel {
	t.Helper()
	r := made(t, width, searches...)
	for _, x := range rows {
		if _, e := r.Put(x.note, x.tuple...); e != api.OK {
			t.Fatal("Put", x, e)
		}
	}
	return r
}

// told: what a going over tells, in its order.
func told(seq iter.Seq2[[]int, complex128]) []row {
	var all []row
	for x, note := range seq {
		all = append(all, row{x, note})
	}
	return all
}

func sameRow(a, b row) bool {
	return slices.Equal(a.tuple, b.tuple) && a.note == b.note
}

// want: told by the going over are just these rows.
func want(t *testing.T, what string, seq iter.Seq2[[]int, complex128], rows ...row) {
	t.Helper()
	if got := told(seq); !slices.EqualFunc(got, rows, sameRow) {
		t.Fatalf("%s: %v, want %v", what, got, rows)
	}
}

// put: Put answers this.
func put(t *testing.T, r *Rel, note complex128, x []int, fresh bool, e api.Errno) {
	t.Helper()
	if got, errno := r.Put(note, x...); got != fresh || errno != e {
		t.Fatalf("Put %v %v: %v %v, want %v %v", note, x, got, errno, fresh, e)
	}
}

// holds: All, Len, Has and Note tell of just these rows, which are given rising.
func holds(t *testing.T, r *Rel, rows ...row) {
	t.Helper()
	want(t, "All", r.All(), rows...)
	if r.Len() != len(rows) {
		t.Fatal("Len", r.Len(), len(rows))
	}
	for _, x := range rows {
		if note, there := r.Note(x.tuple...); note != x.note || !there || !r.Has(x.tuple...) {
			t.Fatal("Note, Has", x, note, there, r.Has(x.tuple...))
		}
	}
}

// grid: all tuples of a width whose numbers are among those given, which rise; the tuples rise, too.
func grid(width int, numbers ...int) [][]int {
	if width == 0 {
		return [][]int{{}}
	}
	var all [][]int
	for _, n := range numbers {
		for _, rest := range grid(width-1, numbers...) {
			all = append(all, append([]int{n}, rest...))
		}
	}
	return all
}

// noted: rows of the tuples, with notes that hang on their places.
func noted(tuples [][]int) []row {
	var rows []row
	for i, x := range tuples {
		rows = append(rows, row{x, complex(float64(i%5-2), float64(i))})
	}
	return rows
}

// strewn: the rows, taken at steps of that many; each is taken once, if step and their number have no divisor in common.
func strewn(rows []row, step int) []row {
	var list []row
	for i := range rows {
		list = append(list, rows[i*step%len(rows)])
	}
	return list
}

// matching: those rows that are the same as the tuple in the columns.
func matching(cols int, like []int, rows []row) []row {
	var list []row
	for _, x := range rows {
		fits := true
		for column, n := range x.tuple {
			if cols&(1<<column) != 0 && n != like[column] {
				fits = false
			}
		}
		if fits {
			list = append(list, x)
		}
	}
	return list
}

// everyOther: the rows at even places.
func everyOther(rows []row) []row {
	var list []row
	for i := 0; i < len(rows); i += 2 {
		list = append(list, rows[i])
	}
	return list
}

// full: a relation of width 2 with as many tuples as there may be, (0, 0) to (2046, 0), the even ones, with the note 5+5i.
func full(t *testing.T, searches ...int) *Rel {
	t.Helper()
	r := made(t, 2, searches...)
	for i := range api.MaxFacts {
		put(t, r, 5+5i, []int{2 * i, 0}, true, api.OK)
	}
	if r.Len() != 1024 {
		t.Fatal(r.Len())
	}
	return r
}

// lists: searches of relations of a width up to 3.
func lists(width int) [][]int {
	all := 1<<width - 1
	many := [][]int{nil, {0}, {all}, {0, all, all, 0}, {1 & all}, {2 & all}, {4 & all, 2 & all, 1 & all}, {6 & all, 3 & all, 5 & all}}
	var each []int
	for cols := range all + 1 {
		each = append(each, cols)
	}
	return append(many, each)
}

// unmade: relations that New did not give.
func unmade() []*Rel {
	return []*Rel{nil, {}, new(Rel)}
}

// P7.2, P7.3: the example of the document.
func TestExample(t *testing.T) {
	r := made(t, 2, 1)
	put(t, r, 3+1i, []int{1, 2}, true, api.OK)
	put(t, r, 2+9i, []int{1, 2}, false, api.OK)
	if note, there := r.Note(1, 2); note != 2+9i || !there {
		t.Fatal(note, there)
	}
	want(t, "Find", r.Find(1, 1, 0), row{[]int{1, 2}, 2 + 9i})
}

// P7.2: a relation of each width, and of all kinds of searches, has nothing at first.
func TestNew(t *testing.T) {
	for width := range api.MaxWidth + 1 {
		all := 1<<width - 1
		for _, searches := range [][]int{nil, {0}, {all}, {0, all}, {1 & all, all &^ 1}, slices.Repeat([]int{all}, api.MaxRels)} {
			r := made(t, width, searches...)
			if r.Width() != width {
				t.Fatal("Width", width, r.Width())
			}
			holds(t, r)
			zero := make([]int, width)
			if note, there := r.Note(zero...); note != 0 || there || r.Has(zero...) {
				t.Fatal("a tuple from the beginning", note, there)
			}
			want(t, "Find", r.Find(all, zero...))
		}
	}
}

// P7.2: what layer 6's Orders refuses, by the same errors, in the same turn.
func TestNewRefuses(t *testing.T) {
	for _, c := range []struct {
		width    int
		searches []int
		e        api.Errno
	}{
		{-1, nil, api.ErrArg},
		{9, nil, api.ErrArg},
		{math.MinInt, nil, api.ErrArg},
		{math.MaxInt, nil, api.ErrArg},
		{0, []int{1}, api.ErrArg},
		{2, []int{1, 4}, api.ErrArg},
		{2, []int{-1, 1}, api.ErrArg},
		{8, []int{255, 256}, api.ErrArg},
		{8, []int{math.MinInt}, api.ErrArg},
		{8, []int{math.MaxInt}, api.ErrArg},
		{8, make([]int, 257), api.ErrMany},
		{8, append(make([]int, 256), -1), api.ErrMany},
		{9, make([]int, 257), api.ErrArg},
		{2, append(make([]int, 255), 4), api.ErrArg},
	} {
		if r, e := New(c.width, c.searches...); r != nil || e != c.e {
			t.Fatal(c.width, c.searches, r, e)
		}
	}
}

// P7.2: Put tells whether a tuple came; Has, Note and Len follow, over all tuples of a grid.
func TestPut(t *testing.T) {
	for width := range 4 {
		rows := noted(grid(width, math.MinInt, -1, 0, 5, math.MaxInt))
		for _, searches := range lists(width) {
			r := made(t, width, searches...)
			for i, x := range strewn(rows, 3) {
				if note, there := r.Note(x.tuple...); note != 0 || there || r.Has(x.tuple...) {
					t.Fatal("ahead of it", x, note, there)
				}
				put(t, r, x.note, x.tuple, true, api.OK)
				put(t, r, x.note, x.tuple, false, api.OK)
				if r.Len() != i+1 || r.Width() != width {
					t.Fatal("Len, Width", r.Len(), r.Width())
				}
			}
			holds(t, r, rows...)
		}
	}
}

// P7.2: which note stays: the one of the lower height, then of the lower rule.
func TestBetterNoteStays(t *testing.T) {
	for _, c := range []struct{ first, then, stays complex128 }{
		{3 + 1i, 2 + 9i, 2 + 9i},
		{2 + 9i, 3 + 1i, 2 + 9i},
		{2 + 9i, 2 + 8i, 2 + 8i},
		{2 + 8i, 2 + 9i, 2 + 8i},
		{2 + 8i, 2 + 8i, 2 + 8i},
		{-2 + 0i, -3 + 7i, -3 + 7i},
		{1 - 4i, 1 - 3i, 1 - 4i},
		{0, -1i, -1i},
		{1 << 50, -1 << 50, -1 << 50},
		{complex(-1<<50, 1<<50), complex(-1<<50, 1<<50-1), complex(-1<<50, 1<<50-1)},
		{complex(-1<<50, -1<<50), complex(1<<50, -1<<50), complex(-1<<50, -1<<50)},
		{complex(1<<50-1, 1<<50), complex(1<<50, -1<<50), complex(1<<50-1, 1<<50)},
	} {
		r := with(t, 2, []int{1, 2}, row{[]int{4, 6}, 7})
		put(t, r, c.first, []int{4, 5}, true, api.OK)
		put(t, r, c.then, []int{4, 5}, false, api.OK)
		holds(t, r, row{[]int{4, 5}, c.stays}, row{[]int{4, 6}, 7})
	}
}

// P7.7: the note that stays is the best of those that came, in whatever order, by Put and by Merge.
func TestBestNoteInWhateverOrder(t *testing.T) {
	notes := []complex128{2 + 3i, 2 - 3i, 4 - 9i, -1 + 8i, -1 + 7i}
	for _, places := range grid(5, 0, 1, 2, 3, 4) {
		best := notes[places[0]]
		r := made(t, 1, 0, 1)
		for _, place := range places {
			note := notes[place]
			if real(note) < real(best) || real(note) == real(best) && imag(note) < imag(best) {
				best = note
			}
			if place%2 == 0 {
				r.Put(note, 6)
			} else {
				r.Merge(with(t, 1, nil, row{[]int{6}, note}))
			}
		}
		holds(t, r, row{[]int{6}, best})
	}
}

// P7.2, R7: wrong tuples and wrong notes are refused, in the turn of the document, and change nothing.
func TestPutRefuses(t *testing.T) {
	for _, searches := range lists(2) {
		rows := noted(grid(2, 0, 1))
		r := with(t, 2, searches, rows...)
		for _, length := range []int{0, 1, 3, 8, 9, 1 << 12} {
			put(t, r, -2, make([]int, length), false, api.ErrWidth)
			put(t, r, complex(math.NaN(), 0), make([]int, length), false, api.ErrWidth)
		}
		for _, note := range noNotes() {
			put(t, r, note, []int{0, 1}, false, api.ErrArg)
			put(t, r, note, []int{0, 2}, false, api.ErrArg)
		}
		holds(t, r, rows...)
		if r.Has(0, 2) {
			t.Fatal("it came")
		}
	}
}

// P7.2: a tuple of another width is not there, also where the numbers that it lacks, or has beyond, are noughts.
func TestTuplesOfAnotherWidth(t *testing.T) {
	for width := range 4 {
		r := with(t, width, nil, noted(grid(width, 0, 1))...)
		for _, length := range []int{0, 1, 2, 3, 4, 8, 9, 1 << 12} {
			if length == width {
				continue
			}
			x := make([]int, length)
			if note, there := r.Note(x...); note != 0 || there || r.Has(x...) {
				t.Fatal(width, length, note, there)
			}
			for cols := -1; cols <= 9; cols++ {
				want(t, "Find", r.Find(cols, x...))
			}
		}
	}
}

// P7.2: the sign of a nought is not kept.
func TestNoughtsAreKeptWithoutSign(t *testing.T) {
	down := math.Copysign(0, -1)
	r := made(t, 1)
	for i, note := range []complex128{complex(down, down), complex(0, down), complex(down, 0), complex(down, 4), complex(4, down)} {
		put(t, r, note, []int{i}, true, api.OK)
		kept, there := r.Note(i)
		if !there || kept != note || math.Signbit(real(kept)) || math.Signbit(imag(kept)) {
			t.Fatal(note, kept, there)
		}
		put(t, r, note, []int{i}, false, api.OK)
	}
	put(t, r, -1i, []int{0}, false, api.OK)
	put(t, r, complex(0, down), []int{0}, false, api.OK)
	if note, _ := r.Note(0); note != -1i {
		t.Fatal(note)
	}
}

// P7.2, R1, R7: a relation with MaxFacts tuples takes no new one, but better notes of those that are there.
func TestPutIntoFullRelation(t *testing.T) {
	for _, searches := range [][]int{nil, {1, 2}} {
		r := full(t, searches...)
		before := told(r.All())
		for _, n := range []int{-1, 1, 777, 2045, 2048, math.MinInt, math.MaxInt} {
			put(t, r, 1, []int{n, 0}, false, api.ErrFull)
			put(t, r, 0.5, []int{n, 0}, false, api.ErrArg)
			put(t, r, 1, []int{n}, false, api.ErrWidth)
			if r.Has(n, 0) {
				t.Fatal("it came", n)
			}
			for cols := range 4 {
				want(t, "Find", r.Find(cols, n, 0), matching(cols, []int{n, 0}, before)...)
			}
		}
		holds(t, r, before...)
		for n := 0; n < 2048; n += 2 {
			put(t, r, 6, []int{n, 0}, false, api.OK)
			put(t, r, 4, []int{n, 0}, false, api.OK)
			before[n/2].note = 4
		}
		holds(t, r, before...)
		r.Clear()
		holds(t, r)
		put(t, r, 3, []int{1, 0}, true, api.OK)
		holds(t, r, row{[]int{1, 0}, 3})
	}
}

// P7.3: All has the tuples rising from the first column on, whatever the searches and the order in which they came.
func TestAll(t *testing.T) {
	for width := range 4 {
		rows := noted(grid(width, math.MinInt, -3, 0, 2, math.MaxInt))
		kept := everyOther(rows)
		for _, searches := range lists(width) {
			want(t, "All", with(t, width, searches, strewn(kept, 11)...).All(), kept...)
		}
	}
}

// P7.3, P7.5, P7.6: Find of every set of columns and every tuple of the grid, there or not, whatever the searches.
func TestFind(t *testing.T) {
	for width := range 4 {
		rows := noted(grid(width, math.MinInt, 0, 2, math.MaxInt))
		kept := everyOther(rows)
		likes := append(grid(width, math.MinInt, 0, 2, math.MaxInt), grid(width, 1)...)
		for _, searches := range lists(width) {
			r := with(t, width, searches, strewn(kept, 11)...)
			for _, like := range likes {
				for cols := range 1 << width {
					want(t, "Find", r.Find(cols, like...), matching(cols, like, kept)...)
				}
			}
		}
	}
}

// P7.5: Find of no columns is All, Find of all columns the tuple itself, if it is there.
func TestFindOfNoneAndOfAll(t *testing.T) {
	rows := noted(grid(3, -1, 4))
	for _, searches := range lists(3) {
		r := with(t, 3, searches, everyOther(rows)...)
		for i, x := range rows {
			want(t, "none", r.Find(0, x.tuple...), told(r.All())...)
			if i%2 == 0 {
				want(t, "all", r.Find(7, x.tuple...), x)
			} else {
				want(t, "all", r.Find(7, x.tuple...))
			}
		}
	}
}

// P7.3: what is no set of the relation's columns finds nothing.
func TestFindOfNoColumnsOfIts(t *testing.T) {
	for width := range api.MaxWidth + 1 {
		zero := make([]int, width)
		r := with(t, width, nil, row{zero, 1})
		over := 1 << width
		for _, cols := range []int{-1, -2, -over, math.MinInt, over, over | 1, over - 1 + over, 1 << 62, math.MaxInt, math.MinInt | 1} {
			want(t, "Find", r.Find(cols, zero...))
		}
		want(t, "all of its", r.Find(over-1, zero...), row{zero, 1})
	}
}

// P7.2 to P7.4: width 0 has one tuple.
func TestWidthNought(t *testing.T) {
	r := made(t, 0, 0, 0)
	put(t, r, 3, nil, true, api.OK)
	put(t, r, 2, []int{}, false, api.OK)
	put(t, r, 1, []int{0}, false, api.ErrWidth)
	only := row{[]int{}, 2}
	holds(t, r, only)
	want(t, "Find", r.Find(0), only)
	want(t, "Find of a column", r.Find(1))
	want(t, "Find of a longer one", r.Find(0, 0))
	o := made(t, 0)
	if n, e := o.Merge(r); n != 1 || e != api.OK {
		t.Fatal(n, e)
	}
	r.Clear()
	holds(t, r)
	if e := r.Swap(o); e != api.OK {
		t.Fatal(e)
	}
	holds(t, r, only)
	holds(t, o)
}

// P7.2, P7.3, P7.6: width MaxWidth, every set of columns.
func TestMaxWidth(t *testing.T) {
	rows := noted(grid(8, 0, 1))
	var each []int
	for cols := range 256 {
		each = append(each, cols)
	}
	for _, searches := range [][]int{nil, {1, 6, 128 + 64}, each} {
		r := with(t, 8, searches, strewn(rows, 101)...)
		if r.Width() != 8 {
			t.Fatal(r.Width())
		}
		holds(t, r, rows...)
		like := []int{1, 0, 1, 0, 1, 1, 0, 1}
		for cols := range 256 {
			want(t, "Find", r.Find(cols, like...), matching(cols, like, rows)...)
		}
		put(t, r, 1, []int{1, 1, 1, 1, 1, 1, 1, 2}, true, api.OK)
	}
}

// P7.3: a going over that is left tells no more; the next one begins anew.
func TestGoingOverLeft(t *testing.T) {
	r := full(t, 1)
	for _, seq := range []iter.Seq2[[]int, complex128]{r.All(), r.Find(0, 7, 7), r.Find(2, 7, 0)} {
		for _, most := range []int{1, 2, 17, 500, 1023, 1024} {
			var seen []row
			for x, note := range seq {
				seen = append(seen, row{x, note})
				if len(seen) == most {
					break
				}
			}
			if len(seen) != most || seen[most-1].tuple[0] != 2*(most-1) {
				t.Fatal(most, len(seen))
			}
		}
		calls := 0
		seq(func([]int, complex128) bool { calls++; return false })
		if calls != 1 {
			t.Fatal("called behind a false", calls)
		}
		if len(told(seq)) != 1024 {
			t.Fatal("begun again")
		}
	}
}

// P7.3: goings over within one another, of one value and of several.
func TestGoingOverNested(t *testing.T) {
	rows := noted(grid(2, 1, 2, 3, 4, 5))
	r := with(t, 2, []int{2}, rows...)
	all, some := r.All(), r.Find(1, 3, 0)
	outer := 0
	for x, note := range all {
		want(t, "the same value within", all, rows...)
		want(t, "Find within", some, rows[10:15]...)
		want(t, "Find of its own", r.Find(3, x...), row{x, note})
		for range some {
			break
		}
		if !sameRow(row{x, note}, rows[outer]) {
			t.Fatal(x, note, rows[outer])
		}
		outer++
	}
	if outer != len(rows) {
		t.Fatal(outer)
	}
}

// turn is something that is done to a relation of width 2, and what All tells behind it.
type turn struct {
	name  string
	do    func(r, o *Rel)
	after []row
}

// turns: of a relation with (1, 1) 5+5i, (1, 2) 5+5i, (2, 1) 5+5i, and an o with (1, 1) 4 and (0, 9) 3.
func turns() []turn {
	first, second, third := row{[]int{1, 1}, 5 + 5i}, row{[]int{1, 2}, 5 + 5i}, row{[]int{2, 1}, 5 + 5i}
	return []turn{
		{"Put of a new one", func(r, o *Rel) { r.Put(1, 1, 0) }, []row{{[]int{1, 0}, 1}, first, second, third}},
		{"Put of a later one", func(r, o *Rel) { r.Put(1, 9, 9) }, []row{first, second, third, {[]int{9, 9}, 1}}},
		{"a better note", func(r, o *Rel) { r.Put(2, 1, 2) }, []row{first, {[]int{1, 2}, 2}, third}},
		{"Clear", func(r, o *Rel) { r.Clear() }, nil},
		{"Merge", func(r, o *Rel) { r.Merge(o) }, []row{{[]int{0, 9}, 3}, {[]int{1, 1}, 4}, second, third}},
		{"Swap", func(r, o *Rel) { r.Swap(o) }, []row{{[]int{0, 9}, 3}, {[]int{1, 1}, 4}}},
		{"Swap from the other side", func(r, o *Rel) { o.Swap(r) }, []row{{[]int{0, 9}, 3}, {[]int{1, 1}, 4}}},
		{"Clear and Put", func(r, o *Rel) { r.Clear(); r.Put(7, 1, 2) }, []row{{[]int{1, 2}, 7}}},
		{"Merge into the other one", func(r, o *Rel) { o.Merge(r) }, []row{first, second, third}},
	}
}

// P7.3: each goes over what there was when it began, notes and tuples, whatever is done to the relation meanwhile; the next one sees it.
func TestGoingOverWhileTheRelationTurns(t *testing.T) {
	for _, searches := range lists(2) {
		for _, c := range turns() {
			for cols := range 4 {
				for at := range len(matching(cols, []int{1, 2}, c.before())) {
					r := with(t, 2, searches, c.before()...)
					o := with(t, 2, nil, row{[]int{1, 1}, 4}, row{[]int{0, 9}, 3})
					seq := r.Find(cols, 1, 2)
					if cols == 0 {
						seq = r.All()
					}
					var seen []row
					for x, note := range seq {
						if len(seen) == at {
							c.do(r, o)
						}
						seen = append(seen, row{x, note})
					}
					if !slices.EqualFunc(seen, matching(cols, []int{1, 2}, c.before()), sameRow) {
						t.Fatal(c.name, cols, at, seen)
					}
					want(t, c.name, seq, matching(cols, []int{1, 2}, c.after)...)
					holds(t, r, c.after...)
				}
			}
		}
	}
}

// before: the rows of the relation to which a turn is done.
func (turn) before() []row {
	return []row{{[]int{1, 1}, 5 + 5i}, {[]int{1, 2}, 5 + 5i}, {[]int{2, 1}, 5 + 5i}}
}

// P7.3: a going over begins when it is ranged over, not when it is asked for.
func TestGoingOverBeginsLate(t *testing.T) {
	for _, c := range turns() {
		r := with(t, 2, []int{1, 2}, c.before()...)
		o := with(t, 2, nil, row{[]int{1, 1}, 4}, row{[]int{0, 9}, 3})
		all, some := r.All(), r.Find(2, 0, 1)
		c.do(r, o)
		want(t, c.name, all, c.after...)
		want(t, c.name, some, matching(2, []int{0, 1}, c.after)...)
	}
}

// P7.4: Merge puts the other one's tuples in, with the better notes, and tells how many came; the other one stays.
func TestMerge(t *testing.T) {
	mine := []row{{[]int{1, 1}, 3 + 3i}, {[]int{2, 0}, 3 + 3i}, {[]int{2, 5}, 3 + 3i}, {[]int{4, 4}, 3 + 3i}}
	others := []row{{[]int{0, 7}, 9}, {[]int{1, 1}, 2 + 9i}, {[]int{2, 0}, 4}, {[]int{2, 5}, 3 + 2i}, {[]int{3, 3}, 1 - 1i}, {[]int{9, 9}, -1}}
	both := []row{{[]int{0, 7}, 9}, {[]int{1, 1}, 2 + 9i}, {[]int{2, 0}, 3 + 3i}, {[]int{2, 5}, 3 + 2i}, {[]int{3, 3}, 1 - 1i}, {[]int{4, 4}, 3 + 3i}, {[]int{9, 9}, -1}}
	for _, searches := range lists(2) {
		for _, likewise := range lists(2) {
			r, o := with(t, 2, searches, mine...), with(t, 2, likewise, others...)
			if n, e := r.Merge(o); n != 3 || e != api.OK {
				t.Fatal(n, e)
			}
			holds(t, r, both...)
			holds(t, o, others...)
			if n, e := r.Merge(o); n != 0 || e != api.OK {
				t.Fatal("once more", n, e)
			}
			for cols := range 4 {
				want(t, "Find", r.Find(cols, 2, 0), matching(cols, []int{2, 0}, both)...)
			}
			o.Put(-5, 1, 1)
			o.Clear()
			holds(t, r, both...)
		}
	}
}

// P7.4: Merge of a relation with itself, and of one without tuples.
func TestMergeOfItself(t *testing.T) {
	rows := noted(grid(2, 1, 2, 3))
	for _, searches := range lists(2) {
		r := with(t, 2, searches, rows...)
		for _, o := range []*Rel{r, made(t, 2, 3), with(t, 2, nil, rows...)} {
			if n, e := r.Merge(o); n != 0 || e != api.OK {
				t.Fatal(n, e)
			}
			holds(t, r, rows...)
		}
	}
	r := full(t)
	if n, e := r.Merge(r); n != 0 || e != api.OK || r.Len() != 1024 {
		t.Fatal(n, e, r.Len())
	}
}

// P7.4, R7: Merge goes as far as there is room: what stands ahead of the tuple without room stays, also better notes; what stands behind it does not come.
func TestMergeWithoutRoom(t *testing.T) {
	for _, searches := range [][]int{nil, {2}, {1, 2}} {
		r := full(t, 1)
		o := with(t, 2, searches, row{[]int{0, 0}, 1}, row{[]int{4, 0}, 9}, row{[]int{5, 0}, 2}, row{[]int{6, 0}, 1}, row{[]int{9, -1}, 1})
		if n, e := r.Merge(o); n != 0 || e != api.ErrFull {
			t.Fatal(n, e)
		}
		rows := told(full(t).All())
		rows[0].note = 1
		holds(t, r, rows...)
		if o.Len() != 5 {
			t.Fatal(o.Len())
		}
	}
}

// P7.4: how many came ahead of the one that has no room is told.
func TestMergeWithSomeRoom(t *testing.T) {
	for room := range 5 {
		r := made(t, 2, 1, 2)
		for i := range api.MaxFacts - room {
			r.Put(5, 10+i, 3)
		}
		rows := told(r.All())
		o := made(t, 2, 2)
		for _, x := range [][]int{{4, 1}, {3, 2}, {2, 3}, {1, 4}, {10, 3}, {11, 2}, {12, 3}} {
			o.Put(4, x...)
		}
		// Rising: four new ones, a better note, a new one, a better note.
		came := min(room, 4)
		if n, e := r.Merge(o); n != came || e != api.ErrFull {
			t.Fatal(room, n, e)
		}
		var wanted []row
		for i := range came {
			wanted = append(wanted, row{[]int{1 + i, 4 - i}, 4})
		}
		if room == 4 {
			rows[0].note = 4
		}
		holds(t, r, append(wanted, rows...)...)
	}
	r := made(t, 1)
	for i := range api.MaxFacts - 2 {
		r.Put(0, i)
	}
	if n, e := r.Merge(with(t, 1, nil, row{[]int{-1}, 0}, row{[]int{-2}, 0}, row{[]int{7}, 0})); n != 2 || e != api.OK || r.Len() != api.MaxFacts {
		t.Fatal(n, e, r.Len())
	}
}

// P7.4, P7.6: Swap of relations that were made for the same searches and for others; both go on as they are then.
func TestSwap(t *testing.T) {
	mine, others := noted(grid(2, 0, 3)), []row{{[]int{0, 3}, 8}, {[]int{1, 1}, 7}}
	for _, searches := range lists(2) {
		for _, likewise := range lists(2) {
			r, o := with(t, 2, searches, mine...), with(t, 2, likewise, others...)
			if e := r.Swap(o); e != api.OK {
				t.Fatal(e)
			}
			holds(t, r, others...)
			holds(t, o, mine...)
			for cols := range 4 {
				want(t, "Find", r.Find(cols, 1, 3), matching(cols, []int{1, 3}, others)...)
				want(t, "Find", o.Find(cols, 0, 3), matching(cols, []int{0, 3}, mine)...)
			}
			put(t, r, 6, []int{1, 0}, true, api.OK)
			put(t, r, -9, []int{0, 3}, false, api.OK)
			holds(t, o, mine...)
			o.Clear()
			after := []row{{[]int{0, 3}, -9}, {[]int{1, 0}, 6}, {[]int{1, 1}, 7}}
			holds(t, r, after...)
			for cols := range 4 {
				want(t, "Find", r.Find(cols, 1, 3), matching(cols, []int{1, 3}, after)...)
			}
		}
	}
}

// P7.4: Swap with itself changes nothing.
func TestSwapWithItself(t *testing.T) {
	rows := noted(grid(2, 0, 3))
	r := with(t, 2, []int{1, 2}, rows...)
	if e := r.Swap(r); e != api.OK {
		t.Fatal(e)
	}
	holds(t, r, rows...)
	put(t, r, 0, []int{1, 1}, true, api.OK)
}

// P7.4, R7: relations of other widths neither merge nor swap.
func TestOtherWidths(t *testing.T) {
	for width := range api.MaxWidth + 1 {
		for other := range api.MaxWidth + 1 {
			if width == other {
				continue
			}
			mine, others := row{make([]int, width), 1}, row{make([]int, other), 2}
			r, o := with(t, width, nil, mine), with(t, other, nil, others)
			if n, e := r.Merge(o); n != 0 || e != api.ErrWidth {
				t.Fatal("Merge", n, e)
			}
			if e := r.Swap(o); e != api.ErrWidth {
				t.Fatal("Swap", e)
			}
			holds(t, r, mine)
			holds(t, o, others)
			if r.Width() != width || o.Width() != other {
				t.Fatal("Width", r.Width(), o.Width())
			}
		}
	}
}

// P7.4: behind Clear there is nothing, and room for all; its width stays.
func TestClear(t *testing.T) {
	for _, searches := range lists(2) {
		rows := noted(grid(2, 0, 1, 2))
		r := with(t, 2, searches, rows...)
		r.Clear()
		holds(t, r)
		for cols := range 4 {
			want(t, "Find", r.Find(cols, 1, 1))
		}
		if note, there := r.Note(1, 1); note != 0 || there || r.Has(1, 1) || r.Width() != 2 {
			t.Fatal(note, there, r.Width())
		}
		put(t, r, 9+9i, []int{1, 1}, true, api.OK)
		holds(t, r, row{[]int{1, 1}, 9 + 9i})
		r.Clear()
		r.Clear()
		holds(t, r)
	}
}

// P7.2 to P7.4, R1: a nil relation, and one that New did not give, has nothing, and takes nothing.
func TestUnmade(t *testing.T) {
	for _, r := range unmade() {
		for _, x := range [][]int{nil, {}, {1}, {1, 2}, make([]int, 9)} {
			put(t, r, 1, x, false, api.ErrNil)
			put(t, r, complex(math.NaN(), 0), x, false, api.ErrNil)
			if note, there := r.Note(x...); note != 0 || there || r.Has(x...) {
				t.Fatal(note, there)
			}
			for _, cols := range []int{math.MinInt, -1, 0, 1, 3, math.MaxInt} {
				want(t, "Find", r.Find(cols, x...))
			}
		}
		r.Clear()
		holds(t, r)
		if r.Width() != 0 {
			t.Fatal(r.Width())
		}
	}
}

// P7.4, R1: nil relations, and ones that New did not give, on either side of Merge and Swap.
func TestUnmadePairs(t *testing.T) {
	for width := range 3 {
		rows := noted(grid(width, 0, 1))
		good := with(t, width, nil, rows...)
		for _, r := range unmade() {
			for _, pair := range [][2]*Rel{{r, good}, {good, r}, {r, r}, {r, nil}, {r, {}}} {
				if n, e := pair[0].Merge(pair[1]); n != 0 || e != api.ErrNil {
					t.Fatal("Merge", n, e)
				}
				if e := pair[0].Swap(pair[1]); e != api.ErrNil {
					t.Fatal("Swap", e)
				}
			}
			holds(t, good, rows...)
			holds(t, r)
		}
	}
}

// roomy: a list with room behind its end, which has this in it.
func roomy(list ...int) []int {
	return append(append(make([]int, 0, len(list)+3), list...), 77, 77, 77)[:len(list)]
}

// scribble: writes over a list and the room behind it.
func scribble(list []int) {
	for i := range list[:cap(list)] {
		list[:cap(list)][i] = -99
	}
}

// untouched: the list and the room behind it are as roomy made them.
func untouched(t *testing.T, what string, list []int, numbers ...int) {
	t.Helper()
	if !slices.Equal(list[:cap(list)], append(numbers, 77, 77, 77)) {
		t.Fatal(what, list[:cap(list)])
	}
}

// R4: what is handed in is not written into and not kept.
func TestHandedIn(t *testing.T) {
	searches := roomy(1, 3, 2)
	r, _ := New(2, searches...)
	untouched(t, "New", searches, 1, 3, 2)
	scribble(searches)
	for i := range 40 {
		x := roomy(i, 40-i)
		put(t, r, 3, x, true, api.OK)
		put(t, r, 2, x, false, api.OK)
		r.Has(x...)
		r.Note(x...)
		untouched(t, "Put, Has, Note", x, i, 40-i)
		scribble(x)
	}
	for i := range 40 {
		if note, there := r.Note(i, 40-i); note != 2 || !there {
			t.Fatal(i, note, there)
		}
		for cols := 1; cols < 4; cols++ {
			like := roomy(i, 40-i)
			seq := r.Find(cols, like...)
			want(t, "Find", seq, row{[]int{i, 40 - i}, 2})
			untouched(t, "Find", like, i, 40-i)
			scribble(like)
			want(t, "Find behind a writing over", seq, row{[]int{i, 40 - i}, 2})
		}
	}
	for x := range r.All() {
		if x[0]+x[1] != 40 {
			t.Fatal(x)
		}
	}
}

// R4: what is handed out is the caller's, to the last number that there is room for.
func TestHandedOut(t *testing.T) {
	rows := noted(grid(2, 1, 2, 3, 4))
	for _, searches := range lists(2) {
		r := with(t, 2, searches, rows...)
		all, some := r.All(), r.Find(1, 2, 9)
		for range 2 {
			for x := range all {
				for y := range all {
					scribble(y)
				}
				scribble(x)
			}
			for x := range some {
				scribble(x)
			}
			first, second := told(all), told(all)
			for i := range first {
				scribble(first[i].tuple)
				if !sameRow(second[i], rows[i]) || i+1 < len(first) && !sameRow(first[i+1], rows[i+1]) {
					t.Fatal("shared", i)
				}
			}
			want(t, "Find", some, matching(1, []int{2, 9}, rows)...)
			holds(t, r, rows...)
		}
	}
}

// R4: relations that were merged or swapped share no tuples.
func TestMergedAreApart(t *testing.T) {
	r, o := made(t, 2, 1), with(t, 2, []int{2}, noted(grid(2, 1, 2))...)
	r.Merge(o)
	r.Put(-9, 1, 1)
	r.Put(-9, 5, 5)
	holds(t, o, noted(grid(2, 1, 2))...)
	o.Put(-9, 2, 2)
	o.Put(-9, 6, 6)
	if note, _ := r.Note(2, 2); note == -9 || r.Has(6, 6) {
		t.Fatal(note)
	}
}

// R3: two relations go their own ways.
func TestTwoRelations(t *testing.T) {
	r, o := made(t, 1), made(t, 1)
	put(t, r, 1, []int{3}, true, api.OK)
	holds(t, o)
	put(t, o, 2, []int{3}, true, api.OK)
	holds(t, r, row{[]int{3}, 1})
	holds(t, o, row{[]int{3}, 2})
}
