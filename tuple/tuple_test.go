package tuple

import (
	"math"
	"slices"
	"testing"

	"vestry/api"
)

const (
	least    = math.MinInt64
	greatest = math.MaxInt64
)

// lists: all lists of that many numbers out of those given.
func lists(width int, numbers ...int) [][]int {
	all := [][]int{{}}
	for range width {
		var longer [][]int
		for _, list := range all {
			for _, n := range numbers {
				longer = append(longer, append(slices.Clone(list), n))
			}
		}
		all = longer
	}
	return all
}

// orders: all orders of a width, made by putting the last column in at each place.
func orders(width int) [][]int {
	if width == 0 {
		return [][]int{{}}
	}
	var all [][]int
	for _, shorter := range orders(width - 1) {
		for place := range width {
			all = append(all, slices.Insert(slices.Clone(shorter), place, width-1))
		}
	}
	return all
}

func plain(width int) []int {
	order := make([]int, width)
	for i := range order {
		order[i] = i
	}
	return order
}

// eachOnce: what an order is, word by word.
func eachOnce(list []int) bool {
	for column := range len(list) {
		times := 0
		for _, c := range list {
			if c == column {
				times++
			}
		}
		if times != 1 {
			return false
		}
	}
	return len(list) <= 8
}

// wrongOrders: lists that are no orders, each with a width.
func wrongOrders() [][]int {
	return [][]int{
		{1}, {-1}, {8}, {least}, {greatest}, {64}, {0, 0}, {1, 1}, {0, 2}, {1, 2}, {-1, 0}, {0, -1}, {2, 0}, {least, 0}, {0, greatest},
		{0, 1, 1}, {0, 2, 2}, {0, 0, 1}, {1, 2, 3}, {0, 1, 3}, {0, 1, -1}, {0, -1, 1}, {0, 1, 2, 2}, {3, 2, 1, 3}, {0, 1, 2, 4}, {0, 1, 2, 64},
		{0, 1, 2, 3, 4, 5, 6, 6}, {0, 1, 2, 3, 4, 5, 6, 8}, {1, 2, 3, 4, 5, 6, 7, 8}, {0, 1, 2, 3, 4, 5, 6, -1}, {0, 1, 2, 3, 4, 5, 6, 7, 7}, {0, 1, 2, 3, 4, 5, 6, 7, 8}, {8, 7, 6, 5, 4, 3, 2, 1, 0}, plain(10), plain(64), plain(1 << 12), make([]int, 9),
	}
}

// P4.1: all lists of few numbers, against the words of the document.
func TestRightOfShortLists(t *testing.T) {
	for width := range 5 {
		for _, list := range lists(width, -1, 0, 1, 2, 3, 4, 5) {
			if Right(list) != eachOnce(list) {
				t.Fatalf("Right(%v): %v", list, Right(list))
			}
		}
	}
}

// P4.1: all orders of each width that there may be.
func TestRightOfAllOrders(t *testing.T) {
	for width := range api.MaxWidth + 1 {
		for _, order := range orders(width) {
			if !Right(order) {
				t.Fatalf("Right(%v): false", order)
			}
		}
	}
}

// P4.1: one column wrong in an order of each width.
func TestRightOfSpoiltOrders(t *testing.T) {
	for width := 1; width <= api.MaxWidth; width++ {
		for place := range width {
			for _, c := range []int{least, -64, -1, (place + 1) % width, width, width + 1, api.MaxWidth, 63, 64, greatest} {
				list := plain(width)
				list[place] = c
				if Right(list) != eachOnce(list) {
					t.Fatalf("Right(%v): %v", list, Right(list))
				}
			}
		}
	}
}

// P4.1: the edges of the width.
func TestRightEdges(t *testing.T) {
	if !Right(nil) || !Right([]int{}) {
		t.Error("the order of width 0 is one")
	}
	if !Right(plain(api.MaxWidth)) || !Right([]int{7, 6, 5, 4, 3, 2, 1, 0}) {
		t.Error("an order of MaxWidth columns is one")
	}
	for _, list := range wrongOrders() {
		if Right(list) {
			t.Errorf("Right(%.80v): true", list)
		}
	}
}

// refused: that each call answers nothing of an order and tuples of which one does not do. The list t is handed to the calls that take one tuple.
func refused(test *testing.T, order, a, b, t []int) {
	test.Helper()
	if n := Cmp(order, a, b); n != 0 {
		test.Errorf("Cmp(%.60v, %.60v, %.60v): %d", order, a, b, n)
	}
	for _, k := range []int{least, -1, 0, 1, len(order), len(order) + 1, greatest} {
		if Head(order, k, a, b) {
			test.Errorf("Head(%.60v, %d, %.60v, %.60v): true", order, k, a, b)
		}
	}
	if list := Turn(order, t); len(list) != 0 {
		test.Errorf("Turn(%.60v, %.60v): %v", order, t, list)
	}
	if list := Back(order, t); len(list) != 0 {
		test.Errorf("Back(%.60v, %.60v): %v", order, t, list)
	}
}

// P4.1: of an order that is none there is nothing, though the tuples are as long as it is.
func TestWrongOrders(t *testing.T) {
	for _, order := range wrongOrders() {
		a, b := make([]int, len(order)), make([]int, len(order))
		refused(t, order, a, a, a)
		for i := range a {
			a[i], b[i] = i, -i-1
		}
		refused(t, order, a, b, a)
		refused(t, order, b, a, b)
		for cols := -3; cols <= 1<<9; cols++ {
			if n, ok := Cover(order, cols); n != 0 || ok {
				t.Fatalf("Cover(%.60v, %d): %d, %v", order, cols, n, ok)
			}
		}
	}
}

// P4.1: of a tuple that does not fit there is nothing, whichever of the two it is, and if both are as long as one another.
func TestTuplesThatDoNotFit(t *testing.T) {
	for width := range api.MaxWidth + 1 {
		for length := range api.MaxWidth + 3 {
			if length == width {
				continue
			}
			for _, order := range [][]int{plain(width), turnedRound(width)} {
				right, wrong, other := make([]int, width), make([]int, length), make([]int, length)
				for i := range other {
					other[i] = 1
				}
				refused(t, order, right, wrong, wrong)
				refused(t, order, wrong, right, wrong)
				refused(t, order, right, other, other)
				refused(t, order, other, right, other)
				refused(t, order, wrong, wrong, wrong)
				refused(t, order, wrong, other, other)
			}
		}
	}
	refused(t, []int{0}, []int{1}, nil, nil)
	refused(t, []int{0}, nil, []int{1}, nil)
	refused(t, nil, nil, []int{1}, []int{1})
	refused(t, nil, []int{1}, nil, []int{1})
	refused(t, []int{0, 1}, []int{1, 2}, make([]int, 1<<16), make([]int, 1<<16))
}

func turnedRound(width int) []int {
	order := plain(width)
	slices.Reverse(order)
	return order
}

// P4.2: the examples of the document, and others told one by one.
func TestCmpCases(t *testing.T) {
	cases := []struct {
		order, a, b []int
		want        int
	}{
		{[]int{1, 0}, []int{1, 2}, []int{2, 1}, 1},
		{[]int{0, 1}, []int{1, 2}, []int{2, 1}, -1},
		{[]int{0, 1}, []int{1, 2}, []int{1, 2}, 0},
		{[]int{1, 0}, []int{1, 2}, []int{2, 2}, -1},
		{[]int{2, 0, 1}, []int{0, 5, 3}, []int{1, 4, 3}, -1},
		{[]int{2, 0, 1}, []int{1, 5, 3}, []int{1, 4, 3}, 1},
		{[]int{2, 0, 1}, []int{9, 9, 2}, []int{1, 1, 3}, -1},
		{[]int{1, 2, 0}, []int{1, 0, 0}, []int{0, 0, 1}, -1},
		{nil, nil, nil, 0},
		{[]int{}, nil, []int{}, 0},
		{[]int{0}, []int{least}, []int{greatest}, -1},
		{[]int{0}, []int{greatest}, []int{least}, 1},
		{[]int{0}, []int{least}, []int{1}, -1},
		{[]int{0}, []int{-2}, []int{greatest}, -1},
		{[]int{0}, []int{greatest}, []int{-1}, 1},
		{[]int{0}, []int{least}, []int{least}, 0},
		{[]int{0}, []int{greatest}, []int{greatest}, 0},
		{[]int{0}, []int{greatest - 1}, []int{greatest}, -1},
		{[]int{0}, []int{least + 1}, []int{least}, 1},
		{[]int{0}, []int{1 << 53}, []int{1<<53 + 1}, -1},
		{[]int{0}, []int{0}, []int{1 << 32}, -1},
		{[]int{0}, []int{-1}, []int{0}, -1},
		{[]int{7, 6, 5, 4, 3, 2, 1, 0}, []int{2, 1, 1, 1, 1, 1, 1, 1}, []int{1, 1, 1, 1, 1, 1, 1, 2}, -1},
		{[]int{0, 1, 2, 3, 4, 5, 6, 7}, []int{1, 1, 1, 1, 1, 1, 1, 2}, []int{1, 1, 1, 1, 1, 1, 1, 1}, 1},
	}
	for _, c := range cases {
		if n := Cmp(c.order, c.a, c.b); n != c.want {
			t.Errorf("Cmp(%v, %v, %v): %d; want %d", c.order, c.a, c.b, n, c.want)
		}
	}
}

// firstUnlike: the first place of the order at whose column both are unlike; the width, if there is none.
func firstUnlike(order, a, b []int) int {
	for place, column := range order {
		if a[column] != b[column] {
			return place
		}
	}
	return len(order)
}

// tuples: all tuples of the least, the greatest, and a few numbers between them.
func tuples(width int) [][]int {
	return lists(width, least, -1, 0, greatest)
}

// P4.2: Cmp and Head of all pairs of tuples, by all orders of small widths, hang on the first place at which both are unlike.
func TestCmpAndHead(t *testing.T) {
	for width := range 4 {
		all := tuples(width)
		for _, order := range orders(width) {
			for _, a := range all {
				for _, b := range all {
					looksAtPair(t, order, a, b)
				}
			}
		}
	}
}

func looksAtPair(t *testing.T, order, a, b []int) {
	t.Helper()
	place, want := firstUnlike(order, a, b), 0
	if place < len(order) && a[order[place]] < b[order[place]] {
		want = -1
	} else if place < len(order) {
		want = 1
	}
	if n := Cmp(order, a, b); n != want {
		t.Fatalf("Cmp(%v, %v, %v): %d; want %d", order, a, b, n, want)
	}
	for k := -2; k <= len(order)+2; k++ {
		if Head(order, k, a, b) != (min(k, len(order)) <= place) {
			t.Fatalf("Head(%v, %d, %v, %v): %v", order, k, a, b, Head(order, k, a, b))
		}
	}
}

// P4.2: at the greatest width, tuples that are unlike in one or two columns.
func TestCmpAndHeadOfMaxWidth(t *testing.T) {
	for _, order := range [][]int{plain(8), turnedRound(8), {3, 1, 4, 0, 5, 7, 2, 6}, {6, 7, 0, 5, 1, 4, 2, 3}} {
		for one := range 8 {
			for two := range 8 {
				a, b := []int{1, 2, 3, 4, 5, 6, 7, 8}, []int{1, 2, 3, 4, 5, 6, 7, 8}
				a[one], b[two] = least, least
				looksAtPair(t, order, a, b)
				a[one], b[two] = greatest, least
				looksAtPair(t, order, a, b)
			}
		}
	}
}

// P4.2: k of Head at its edges.
func TestHeadCases(t *testing.T) {
	order, a, b := []int{2, 0, 1}, []int{5, 6, 7}, []int{5, 9, 7}
	for k, want := range map[int]bool{least: true, -1: true, 0: true, 1: true, 2: true, 3: false, 4: false, 8: false, 9: false, 64: false, greatest: false} {
		if Head(order, k, a, b) != want {
			t.Errorf("Head(%v, %d, %v, %v): %v", order, k, a, b, !want)
		}
		if !Head(order, k, a, []int{5, 6, 7}) {
			t.Errorf("Head(%v, %d, %v) of the same tuple: false", order, k, a)
		}
		if !Head(nil, k, nil, []int{}) {
			t.Errorf("Head of width 0, k %d: false", k)
		}
		if Head(order, k, a, []int{1, 1, 1}) != (k < 1) {
			t.Errorf("Head(%v, %d) of tuples that are unlike in all columns: %v", order, k, k >= 1)
		}
	}
}

// P4.2: Turn and Back, the example of the document among them.
func TestTurnAndBackCases(t *testing.T) {
	cases := []struct{ order, t, turned, back []int }{
		{[]int{2, 0, 1}, []int{5, 6, 7}, []int{7, 5, 6}, []int{6, 7, 5}},
		{[]int{1, 2, 0}, []int{5, 6, 7}, []int{6, 7, 5}, []int{7, 5, 6}},
		{[]int{0, 1, 2}, []int{5, 6, 7}, []int{5, 6, 7}, []int{5, 6, 7}},
		{[]int{1, 0}, []int{least, greatest}, []int{greatest, least}, []int{greatest, least}},
		{[]int{0}, []int{least}, []int{least}, []int{least}},
		{nil, nil, nil, nil},
		{[]int{1, 3, 0, 2}, []int{10, 11, 12, 13}, []int{11, 13, 10, 12}, []int{12, 10, 13, 11}},
		{[]int{7, 0, 1, 2, 3, 4, 5, 6}, []int{0, 1, 2, 3, 4, 5, 6, 7}, []int{7, 0, 1, 2, 3, 4, 5, 6}, []int{1, 2, 3, 4, 5, 6, 7, 0}},
	}
	for _, c := range cases {
		if list := Turn(c.order, c.t); !slices.Equal(list, c.turned) {
			t.Errorf("Turn(%v, %v): %v; want %v", c.order, c.t, list, c.turned)
		}
		if list := Back(c.order, c.t); !slices.Equal(list, c.back) {
			t.Errorf("Back(%v, %v): %v; want %v", c.order, c.t, list, c.back)
		}
	}
}

// P4.2, and P4.5's first half: all orders of all widths.
func TestTurnAndBack(t *testing.T) {
	for width := range api.MaxWidth + 1 {
		list := []int{greatest, -4, least, 0, 9, 1, -1, 7}[:width]
		for _, order := range orders(width) {
			turned, back := Turn(order, list), Back(order, list)
			if len(turned) != width || len(back) != width {
				t.Fatalf("Turn, Back by %v: %v, %v", order, turned, back)
			}
			for i, column := range order {
				if turned[i] != list[column] || back[column] != list[i] {
					t.Fatalf("Turn, Back by %v of %v: %v, %v", order, list, turned, back)
				}
			}
			if !slices.Equal(Back(order, turned), list) || !slices.Equal(Turn(order, back), list) {
				t.Fatalf("%v by %v does not come back", list, order)
			}
		}
	}
}

// covers: what Cover is, by all beginnings of the order.
func covers(order []int, cols int) (int, bool) {
	set := 0
	for count := range len(order) + 1 {
		if set == cols {
			return count, true
		}
		if count < len(order) {
			set += 1 << order[count]
		}
	}
	return 0, false
}

// P4.3: all sets of columns, and those with bits from the width on, by all orders of widths up to 6, and some of the greatest.
func TestCover(t *testing.T) {
	all := [][]int{plain(7), turnedRound(7), plain(8), turnedRound(8), {3, 1, 4, 0, 5, 7, 2, 6}}
	for width := range 7 {
		all = append(all, orders(width)...)
	}
	for _, order := range all {
		for cols := range 1 << (len(order) + 2) {
			want, may := covers(order, cols)
			if n, ok := Cover(order, cols); n != want || ok != may {
				t.Fatalf("Cover(%v, %d): %d, %v; want %d, %v", order, cols, n, ok, want, may)
			}
		}
	}
}

// P4.3: the edges of cols.
func TestCoverEdges(t *testing.T) {
	if n, ok := Cover([]int{2, 0, 1}, 5); n != 2 || !ok {
		t.Errorf("the example: %d, %v", n, ok)
	}
	for width := range api.MaxWidth + 1 {
		for _, order := range [][]int{plain(width), turnedRound(width)} {
			if n, ok := Cover(order, 0); n != 0 || !ok {
				t.Errorf("Cover(%v, 0): %d, %v", order, n, ok)
			}
			if n, ok := Cover(order, 1<<width-1); n != width || !ok {
				t.Errorf("Cover of all columns of %v: %d, %v", order, n, ok)
			}
			for bit := width; bit < 64; bit++ {
				for _, lower := range []int{0, 1<<width - 1, (1<<width - 1) >> 1} {
					if n, ok := Cover(order, 1<<bit|lower); n != 0 || ok {
						t.Errorf("Cover(%v) with the bit %d: %d, %v", order, bit, n, ok)
					}
				}
			}
			for _, cols := range []int{-1, -2, -1 << width, -1 << 8, least, least + 1, least + 1<<width - 1, greatest} {
				if n, ok := Cover(order, cols); n != 0 || ok {
					t.Errorf("Cover(%v, %d): %d, %v", order, cols, n, ok)
				}
			}
		}
	}
}

// P4.3: the set of a list, whatever its order, and however often a column stands there.
func TestCols(t *testing.T) {
	cases := []struct {
		list []int
		want int
	}{
		{nil, 0}, {[]int{}, 0}, {[]int{0}, 1}, {[]int{7}, 128}, {[]int{0, 2}, 5}, {[]int{2, 0}, 5}, {[]int{3, 3}, 8}, {[]int{1, 0, 1, 1}, 3},
		{plain(8), 255}, {turnedRound(8), 255}, {append(plain(8), plain(8)...), 255}, {make([]int, 1<<12), 1},
	}
	for _, c := range cases {
		if n, e := Cols(c.list...); n != c.want || e != api.OK {
			t.Errorf("Cols(%.60v): %d, %v; want %d", c.list, n, e, c.want)
		}
	}
	if n, e := Cols(); n != 0 || e != api.OK {
		t.Errorf("Cols(): %d, %v", n, e)
	}
	for width := range 5 {
		for _, list := range lists(width, 0, 3, 4, 7) {
			n, e := Cols(list...)
			for bit := range 64 {
				if e != api.OK || n>>bit&1 == 1 != slices.Contains(list, bit) {
					t.Fatalf("Cols(%v): %d, %v", list, n, e)
				}
			}
		}
	}
}

// P4.3, R1: a column that may not be, at each place, with no set beside the error.
func TestColsRefused(t *testing.T) {
	for _, c := range []int{least, -64, -8, -1, api.MaxWidth, api.MaxWidth + 1, 63, 64, 1 << 32, greatest} {
		for place := range 4 {
			list := slices.Insert([]int{0, 7, 7}, place, c)
			if n, e := Cols(list...); n != 0 || e != api.ErrArg {
				t.Errorf("Cols(%v): %d, %v", list, n, e)
			}
		}
		if n, e := Cols(c); n != 0 || e != api.ErrArg {
			t.Errorf("Cols(%d): %d, %v", c, n, e)
		}
	}
}

// P4.4: the order turns round, goes on, and has 0 just of the same tuples.
func TestOrderIsOne(t *testing.T) {
	for width := range 3 {
		all := tuples(width)
		for _, order := range orders(width) {
			for _, a := range all {
				for _, b := range all {
					if Cmp(order, a, b) != -Cmp(order, b, a) {
						t.Fatalf("%v: %v and %v do not turn round", order, a, b)
					}
					if (Cmp(order, a, b) == 0) != slices.Equal(a, b) {
						t.Fatalf("%v: %v and %v: %d", order, a, b, Cmp(order, a, b))
					}
					for _, c := range all {
						if Cmp(order, a, b) <= 0 && Cmp(order, b, c) <= 0 && Cmp(order, a, c) > 0 {
							t.Fatalf("%v: %v, %v, %v do not go on", order, a, b, c)
						}
					}
				}
			}
		}
	}
}

// P4.5: Cmp and Head are those of the turned tuples by the plain order.
func TestCmpOfTurned(t *testing.T) {
	for width := range 4 {
		all := tuples(width)
		for _, order := range orders(width) {
			for _, a := range all {
				for _, b := range all {
					x, y := Turn(order, a), Turn(order, b)
					if n := Cmp(plain(width), x, y); n != Cmp(order, a, b) || n != slices.Compare(x, y) {
						t.Fatalf("%v: %v and %v, turned %v and %v: %d", order, a, b, x, y, n)
					}
					for k := range width + 1 {
						if Head(plain(width), k, x, y) != Head(order, k, a, b) {
							t.Fatalf("%v: the heads of %v and %v, turned %v and %v", order, a, b, x, y)
						}
					}
				}
			}
		}
	}
}

// P4.6: what stands between two tuples of one head has it, too.
func TestHeadsAreNeighbours(t *testing.T) {
	for _, order := range orders(3) {
		all := lists(3, least, 0, greatest)
		slices.SortFunc(all, func(a, b []int) int { return Cmp(order, a, b) })
		for k := range 4 {
			for from := range all {
				for to := from; to < len(all); to++ {
					if !Head(order, k, all[from], all[to]) {
						continue
					}
					for _, between := range all[from:to] {
						if !Head(order, k, all[from], between) || !Head(order, k, between, all[to]) {
							t.Fatalf("%v, %d: %v stands between %v and %v", order, k, between, all[from], all[to])
						}
					}
				}
			}
		}
	}
}

// roomy: a list with room behind it, filled so that a write there is seen.
func roomy(list ...int) []int {
	room := append(slices.Clone(list), 77, 77, 77)
	return room[:len(list)]
}

func untouched(list []int, want ...int) bool {
	return slices.Equal(list[:len(list)+3], append(slices.Clone(want), 77, 77, 77))
}

// R4: no call writes into what it was handed, nor behind it, at right and at wrong arguments.
func TestNothingIsWrittenInto(t *testing.T) {
	for _, list := range [][]int{{2, 0, 1}, {2, 0, 0}, {2, 0, 1, 3}, {1, 0}, {5, -1, 9}, {}} {
		order, a, b := roomy(list...), roomy(5, 6, 7), roomy(5, 9, 7)
		Right(order)
		Cmp(order, a, b)
		Head(order, 2, a, b)
		Turn(order, a)
		Back(order, b)
		Cover(order, 5)
		Cols(order...)
		if !untouched(order, list...) || !untouched(a, 5, 6, 7) || !untouched(b, 5, 9, 7) {
			t.Errorf("%v: %v, %v, %v", list, order, a, b)
		}
	}
}

// R4: what was handed in may be written over behind the call, and what was answered stays.
func TestHandedInWrittenOver(t *testing.T) {
	order, list := []int{2, 0, 1}, []int{5, 6, 7}
	turned, back := Turn(order, list), Back(order, list)
	copy(order, []int{0, 0, 0})
	copy(list, []int{1, 1, 1})
	if !slices.Equal(turned, []int{7, 5, 6}) || !slices.Equal(back, []int{6, 7, 5}) {
		t.Errorf("answers turned: %v, %v", turned, back)
	}
	if Right(order) || Turn(order, list) != nil {
		t.Error("the order that was written over is none")
	}
	copy(order, []int{0, 1, 2})
	if !slices.Equal(Turn(order, list), []int{1, 1, 1}) {
		t.Error("the tuple that was written over is another one")
	}
}

// R4: what was answered is the caller's: it shares nothing with the arguments, not by the plain order either, nor with another answer.
func TestAnswersWrittenOver(t *testing.T) {
	for _, order := range [][]int{{0, 1, 2}, {2, 0, 1}} {
		for _, call := range []func(order, t []int) []int{Turn, Back} {
			kept, list := slices.Clone(order), []int{5, 6, 7}
			one, two := call(order, list), call(order, list)
			want := slices.Clone(two)
			for i := range one {
				one[i] = 99
			}
			_ = append(one[:1], 98, 97)
			if !slices.Equal(order, kept) || !slices.Equal(list, []int{5, 6, 7}) || !slices.Equal(two, want) || !slices.Equal(call(order, list), want) {
				t.Errorf("by %v: %v, %v, %v", kept, order, list, two)
			}
			self := call(order, order)
			self[0] = 99
			if !slices.Equal(order, kept) {
				t.Errorf("the order that was its own tuple turned: %v", order)
			}
		}
	}
}

// R3: the same calls have the same answers, whatever was asked between them.
func TestSameAnswers(t *testing.T) {
	order, a, b := []int{1, 0}, []int{1, 2}, []int{2, 1}
	for _, between := range [][]int{{0, 1}, {1, 1}, nil, {0, 1, 2, 3, 4, 5, 6, 7}} {
		Right(between)
		Turn(between, between)
		Cover(between, 3)
		n, ok := Cover(order, 2)
		if !Right(order) || Cmp(order, a, b) != 1 || Head(order, 1, a, b) || n != 1 || !ok || !slices.Equal(Turn(order, a), []int{2, 1}) {
			t.Errorf("other answers behind %v", between)
		}
	}
}

// R6: a list that is nil and an empty one are the same.
func TestNilAndEmpty(t *testing.T) {
	for _, order := range [][]int{nil, {}} {
		for _, list := range [][]int{nil, {}} {
			if Cmp(order, list, nil) != 0 || !Head(order, 1, list, []int{}) || len(Turn(order, list)) != 0 || len(Back(order, list)) != 0 {
				t.Errorf("%v, %v: nil and empty are unlike", order, list)
			}
		}
		if n, ok := Cover(order, 0); n != 0 || !ok {
			t.Errorf("Cover(%v, 0): %d, %v", order, n, ok)
		}
	}
}
