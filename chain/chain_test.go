package chain

import (
	"math"
	"math/bits"
	"slices"
	"testing"

	"vestry/api"
)

// every: all searches of that many columns.
func every(width int) []int {
	var list []int
	for search := range 1 << width {
		list = append(list, search)
	}
	return list
}

// ofSize: the searches of MaxWidth columns that have so many of them.
func ofSize(size int) []int {
	var list []int
	for _, search := range every(api.MaxWidth) {
		if bits.OnesCount(uint(search)) == size {
			list = append(list, search)
		}
	}
	return list
}

// some: so many searches below limit, the same for the same seed; they may come twice.
func some(seed uint32, count, limit int) []int {
	var list []int
	for range count {
		seed = seed*1664525 + 1013904223
		list = append(list, int(seed>>16)%limit)
	}
	return list
}

// isOrder: the list has each column of its width once, and not too many.
func isOrder(list []int) bool {
	if len(list) > 8 {
		return false
	}
	sorted := slices.Sorted(slices.Values(list))
	for i, column := range sorted {
		if column != i {
			return false
		}
	}
	return true
}

// serves: the search is just one of the sets that the order's first columns make.
func serves(list []int, search int) bool {
	if !isOrder(list) {
		return false
	}
	set := 0
	if search == set {
		return true
	}
	for _, column := range list {
		set += 1 << column
		if search == set {
			return true
		}
	}
	return false
}

// contain: one of the two has all columns of the other.
func contain(a, b int) bool {
	return a|b == a || a|b == b
}

// apart: the most of the searches of which no two contain one another.
func apart(searches []int) int {
	if len(searches) == 0 {
		return 0
	}
	first, rest := searches[0], searches[1:]
	var free []int
	for _, search := range rest {
		if !contain(first, search) {
			free = append(free, search)
		}
	}
	with := 1 + apart(free)
	if len(free) == len(rest) {
		return with
	}
	return max(with, apart(rest))
}

// allOrders: all orders of a width.
func allOrders(width int) [][]int {
	if width == 0 {
		return [][]int{{}}
	}
	var list [][]int
	for _, shorter := range allOrders(width - 1) {
		for place := range width {
			list = append(list, slices.Insert(slices.Clone(shorter), place, width-1))
		}
	}
	return list
}

// fewest: how many of the orders serve all the searches, tried out; at least one.
func fewest(orders [][]int, searches []int) int {
	least := len(orders)
	for chosen := 1; chosen < 1<<len(orders); chosen++ {
		count := bits.OnesCount(uint(chosen))
		if count < least && chosenServe(orders, chosen, searches) {
			least = count
		}
	}
	return least
}

func chosenServe(orders [][]int, chosen int, searches []int) bool {
	for _, search := range searches {
		served := false
		for i, order := range orders {
			served = served || chosen>>i&1 == 1 && serves(order, search)
		}
		if !served {
			return false
		}
	}
	return true
}

// least: what Least says, without an error.
func least(t *testing.T, searches ...int) int {
	t.Helper()
	n, e := Least(searches...)
	if e != api.OK {
		t.Fatal("Least", searches, n, e)
	}
	return n
}

func wantLeast(t *testing.T, want int, searches ...int) {
	t.Helper()
	if n := least(t, searches...); n != want {
		t.Fatalf("Least %v: %d, want %d", searches, n, want)
	}
}

// wantOrders: just so many orders of that width, which serve all the searches.
func wantOrders(t *testing.T, want, width int, searches ...int) {
	t.Helper()
	orders, e := Orders(width, searches...)
	if e != api.OK || len(orders) != want {
		t.Fatalf("Orders %d %v: %v %v, want %d", width, searches, orders, e, want)
	}
	for _, order := range orders {
		if len(order) != width || !isOrder(order) {
			t.Fatalf("Orders %d %v: %v is none of the width", width, searches, order)
		}
	}
	for _, search := range searches {
		if !slices.ContainsFunc(orders, func(order []int) bool { return serves(order, search) }) {
			t.Fatalf("Orders %d %v: %v do not serve %d", width, searches, orders, search)
		}
	}
}

// wantBoth: Least says so many, and Orders gives them, of that width and of the widest.
func wantBoth(t *testing.T, want, width int, searches ...int) {
	t.Helper()
	wantLeast(t, want, searches...)
	wantOrders(t, want, width, searches...)
	wantOrders(t, want, api.MaxWidth, searches...)
}

// P6.1, P6.2: the document's example, and how it comes about that a search must give way.
func TestOrdinary(t *testing.T) {
	wantBoth(t, 2, 2, 1, 3, 2)
	wantBoth(t, 3, 3, 1, 2, 4)
	wantBoth(t, 2, 3, 1, 2, 3, 5)
	wantBoth(t, 2, 3, 1, 2, 3, 6)
	wantBoth(t, 2, 4, 1, 2, 5, 6, 7, 15)
	wantBoth(t, 1, 8, 128)
	wantBoth(t, 2, 8, 128, 127)
}

// P6.1, P6.2: no searches at all, and none but 0, still have one order.
func TestNoSearches(t *testing.T) {
	for width := range api.MaxWidth + 1 {
		wantBoth(t, 1, width)
		wantBoth(t, 1, width, 0)
		wantBoth(t, 1, width, 0, 0, 0)
	}
	wantBoth(t, 1, 1, 0, 1)
	wantBoth(t, 2, 2, 2, 0, 1)
}

// P6.1: by the definition, tried out with all orders of three columns, for all sets of searches of these.
func TestLeastOfAllOrders(t *testing.T) {
	for width := range 4 {
		orders := allOrders(width)
		for chosen := range 1 << (1 << width) {
			var searches []int
			for search := range 1 << width {
				if chosen>>search&1 == 1 {
					searches = append(searches, search)
				}
			}
			wantBoth(t, fewest(orders, searches), width, searches...)
		}
	}
}

// P6.1, P6.2, P6.4: for all sets of searches of four columns as many orders as there are at most searches of which no two contain one another.
func TestAllOfFourColumns(t *testing.T) {
	for chosen := range 1 << 16 {
		var searches []int
		for search := range 16 {
			if chosen>>search&1 == 1 {
				searches = append(searches, search)
			}
		}
		want := max(1, apart(searches))
		wantLeast(t, want, searches...)
		wantOrders(t, want, 4, searches...)
	}
}

// P6.1, P6.2: searches of more columns, in any order, some of them twice.
func TestManyColumns(t *testing.T) {
	for seed := range uint32(400) {
		for _, width := range []int{5, 6, 7, 8} {
			searches := some(seed, 1+int(seed)%24, 1<<width)
			wantBoth(t, max(1, apart(searches)), width, searches...)
		}
	}
}

// P6.1, P6.2: all searches of a width at once need as many orders as there are of half the columns.
func TestAllAtOnce(t *testing.T) {
	for width, want := range []int{1, 1, 2, 3, 6, 10, 20, 35, 70} {
		wantBoth(t, want, width, every(width)...)
		falling := every(width)
		slices.Reverse(falling)
		wantBoth(t, want, width, falling...)
	}
}

// P6.1: a search that comes twice is served but once.
func TestTwice(t *testing.T) {
	wantBoth(t, 1, 3, 5, 5)
	wantBoth(t, 2, 3, 5, 3, 5, 3)
	wantBoth(t, 2, 3, 1, 3, 2, 2, 3, 1, 0, 0)
}

// P6.1, P6.2: 256 searches may be, 257 may not, though they are the same ones.
func TestMany(t *testing.T) {
	wantBoth(t, 1, 3, slices.Repeat([]int{5}, 256)...)
	wantBoth(t, 70, 8, every(8)...)
	for _, searches := range [][]int{
		slices.Repeat([]int{5}, 257),
		slices.Repeat([]int{0}, 257),
		append(every(8), 255),
		// More than may be is said ahead of what is wrong with one of them.
		append(every(8), -1),
		slices.Repeat([]int{1 << 8}, 300),
	} {
		if n, e := Least(searches...); n != 0 || e != api.ErrMany {
			t.Fatal("Least", len(searches), n, e)
		}
		if orders, e := Orders(8, searches...); len(orders) != 0 || e != api.ErrMany {
			t.Fatal("Orders", len(searches), orders, e)
		}
		if orders, e := Orders(0, searches...); len(orders) != 0 || e != api.ErrMany {
			t.Fatal("Orders", len(searches), orders, e)
		}
	}
}

// P6.1, P6.2: a search below 0, or with bits from the width on, wherever it stands.
func TestWrongSearch(t *testing.T) {
	for width := range api.MaxWidth + 1 {
		wrong := []int{-1, -2, -256, -257, math.MinInt, math.MinInt + 1, math.MaxInt, 1 << width, 1<<width + 1, 3 << width, 1 << 62}
		for _, search := range wrong {
			for _, searches := range [][]int{{search}, {search, 0}, {0, search}, {0, search, 0}} {
				if orders, e := Orders(width, searches...); len(orders) != 0 || e != api.ErrArg {
					t.Fatal("Orders", width, searches, orders, e)
				}
				if width < api.MaxWidth {
					continue
				}
				if n, e := Least(searches...); n != 0 || e != api.ErrArg {
					t.Fatal("Least", searches, n, e)
				}
			}
		}
		wantOrders(t, 1, width, 1<<width-1)
	}
}

// P6.2: a width that may not be comes ahead of all that is wrong with the searches.
func TestWrongWidth(t *testing.T) {
	for _, width := range []int{-1, -8, 9, 64, 65, math.MinInt, math.MaxInt} {
		for _, searches := range [][]int{nil, {0}, {1}, {-1}, {1 << 8}, slices.Repeat([]int{0}, 257), slices.Repeat([]int{-1}, 257)} {
			if orders, e := Orders(width, searches...); len(orders) != 0 || e != api.ErrArg {
				t.Fatal("Orders", width, len(searches), orders, e)
			}
		}
	}
}

func wantPick(t *testing.T, orders [][]int, search, want int, there bool) {
	t.Helper()
	if place, ok := Pick(orders, search); place != want || ok != there {
		t.Fatalf("Pick %v %d: %d %v, want %d %v", orders, search, place, ok, want, there)
	}
}

// P6.3: the first that serves, whatever else serves too.
func TestPick(t *testing.T) {
	orders := [][]int{{0, 1, 2}, {2, 1, 0}, {1, 2, 0}, {0, 2, 1}}
	for search, want := range []int{0, 0, 2, 0, 1, 3, 1, 0} {
		wantPick(t, orders, search, want, true)
	}
	wantPick(t, [][]int{{1, 0}, {0, 1}}, 1, 1, true)
	wantPick(t, [][]int{{1, 0}, {0, 1}}, 3, 0, true)
	wantPick(t, [][]int{{0}, {1, 0}, {1, 2, 0}}, 6, 2, true)
	wantPick(t, [][]int{{}, {0}}, 0, 0, true)
	wantPick(t, [][]int{nil, {0}}, 1, 1, true)
	wantPick(t, [][]int{{0, 1, 2, 3, 4, 5, 6, 7}, {7, 6, 5, 4, 3, 2, 1, 0}}, 128, 1, true)
}

// P6.3: where none serves, there is no place.
func TestPickNone(t *testing.T) {
	wantPick(t, nil, 0, 0, false)
	wantPick(t, [][]int{}, 1, 0, false)
	orders := [][]int{{0, 1, 2}, {1, 0, 2}}
	wantPick(t, orders, 4, 0, false)
	wantPick(t, orders, 5, 0, false)
	for _, search := range []int{8, 9, 256, 1 << 62, math.MaxInt, -1, -2, -8, math.MinInt, math.MinInt + 1, math.MinInt + 7} {
		wantPick(t, orders, search, 0, false)
	}
	wantPick(t, [][]int{{}}, 1, 0, false)
}

// P6.3: lists that are no orders serve none, not even 0, ahead of one that serves and behind it.
func TestPickNoOrders(t *testing.T) {
	bad := [][]int{{0, 0}, {1}, {0, 2}, {-1, 0}, {0, 1, 1}, {0, 1, 3}, {8}, {64, 0}, {0, 1, 2, 3, 4, 5, 6, 7, 8}, {math.MinInt}, {math.MaxInt, 0}}
	for _, list := range bad {
		for search := -3; search < 1<<9; search++ {
			wantPick(t, [][]int{list}, search, 0, false)
		}
		wantPick(t, [][]int{list, {0, 1}}, 0, 1, true)
		wantPick(t, [][]int{list, list, {0, 1}, list}, 1, 2, true)
		wantPick(t, [][]int{{0, 1}, list}, 1, 0, true)
		wantPick(t, [][]int{{0, 1}, list}, 2, 0, false)
	}
	wantPick(t, append(bad, []int{0, 1, 2}), 7, len(bad), true)
	wantPick(t, bad, 0, 0, false)
}

// P6.3: by the definition, for all lists of few columns and all searches around theirs.
func TestPickAll(t *testing.T) {
	lists := [][]int{{}}
	for i := 0; i < len(lists); i++ {
		if len(lists[i]) == 3 {
			continue
		}
		for column := -1; column <= 3; column++ {
			lists = append(lists, append(slices.Clone(lists[i]), column))
		}
	}
	for search := -17; search <= 17; search++ {
		for from := range lists {
			want := slices.IndexFunc(lists[from:], func(list []int) bool { return serves(list, search) })
			wantPick(t, lists[from:], search, max(0, want), want >= 0)
		}
	}
}

// P6.2, P6.3: Pick finds an order for every search that Orders was told of.
func TestPickOfOrders(t *testing.T) {
	for seed := range uint32(50) {
		searches := some(seed, 40, 1<<8)
		orders, _ := Orders(8, searches...)
		for _, search := range searches {
			if place, ok := Pick(orders, search); !ok || !serves(orders[place], search) {
				t.Fatal("Pick", orders, search, place, ok)
			}
		}
	}
}

// P6.4: searches of which no two contain one another need an order each.
func TestApart(t *testing.T) {
	for size, want := range []int{1, 8, 28, 56, 70, 56, 28, 8, 1} {
		wantBoth(t, want, 8, ofSize(size)...)
	}
	wantBoth(t, 4, 8, 1, 6, 24, 224)
	wantBoth(t, 3, 5, 7, 25, 26)
	for seed := range uint32(200) {
		var searches []int
		for _, search := range some(seed, 60, 1<<8) {
			if !slices.ContainsFunc(searches, func(other int) bool { return contain(search, other) }) {
				searches = append(searches, search)
			}
		}
		wantBoth(t, len(searches), 8, searches...)
	}
}

// P6.4: a row of searches each of which contains the one ahead needs one order, however they are told.
func TestRow(t *testing.T) {
	wantBoth(t, 1, 8, 0, 1, 3, 7, 15, 31, 63, 127, 255)
	wantBoth(t, 1, 8, 255, 254, 252, 248, 240, 224, 192, 128, 0)
	wantBoth(t, 1, 8, 4, 36, 164, 255)
	for _, order := range allOrders(5) {
		row, set := []int{0}, 0
		for _, column := range order {
			set |= 1 << column
			row = append(row, set)
		}
		wantBoth(t, 1, 5, row...)
		slices.Reverse(row)
		wantBoth(t, 1, 5, row[1:5]...)
		wantBoth(t, 1, 5, row[1], row[4], row[2], row[4])
	}
}

// P6.5: one more search, whichever it is, never needs fewer orders, and at most one more.
func TestOneMore(t *testing.T) {
	for _, count := range []int{0, 1, 2, 5, 20, 60, 120, 255} {
		searches := some(uint32(count), count, 1<<8)
		now := least(t, searches...)
		for _, search := range every(8) {
			more := least(t, append(slices.Clone(searches), search)...)
			if more < now || more > now+1 {
				t.Fatal("one more", searches, search, now, more)
			}
			if (search == 0 || slices.Contains(searches, search)) && more != now {
				t.Fatal("one that was there", searches, search, now, more)
			}
		}
	}
}

// P6.5: search by search, till all are there.
func TestOneByOne(t *testing.T) {
	searches := every(8)
	slices.SortFunc(searches, func(a, b int) int { return (a*167+13)%256 - (b*167+13)%256 })
	before := 1
	for count := range len(searches) + 1 {
		now := least(t, searches[:count]...)
		if now < before || now > before+1 {
			t.Fatal("one by one", searches[:count], before, now)
		}
		before = now
	}
	if before != 70 {
		t.Fatal("all", before)
	}
}

// R3: the same call has the same answer.
func TestSame(t *testing.T) {
	searches := some(7, 100, 1<<8)
	first, _ := Orders(8, searches...)
	for range 5 {
		again, _ := Orders(8, searches...)
		if !slices.EqualFunc(first, again, slices.Equal) {
			t.Fatal("Orders", first, again)
		}
	}
}

// R4: searches that were handed in are as they were, with what lies behind them.
func TestSearchesStay(t *testing.T) {
	room := []int{5, 3, 0, 3, 7, 1, 2, 99, 98, 97, 96}
	before := slices.Clone(room)
	searches := room[:7]
	least(t, searches...)
	orders, e := Orders(3, searches...)
	if !slices.Equal(room, before) {
		t.Fatal("searches", room)
	}
	kept := copyOf(orders)
	for i := range room {
		room[i] = 6
	}
	if e != api.OK || !slices.EqualFunc(orders, kept, slices.Equal) {
		t.Fatal("orders", orders, kept)
	}
	wantOrders(t, 1, 3, searches...)
}

func copyOf(lists [][]int) [][]int {
	var all [][]int
	for _, list := range lists {
		all = append(all, slices.Clone(list))
	}
	return all
}

// R4: orders that were answered may be written over, each for itself, to their room's end, and nothing else turns.
func TestOrdersAreTheCallers(t *testing.T) {
	searches := []int{1, 2, 4, 3, 6, 7}
	kept, _ := Orders(3, searches...)
	kept = copyOf(kept)
	for i := range kept {
		orders, _ := Orders(3, searches...)
		list := orders[i][:cap(orders[i])]
		for j := range list {
			list[j] = -9
		}
		for j := range orders {
			if j != i && !slices.Equal(orders[j], kept[j]) {
				t.Fatal("another order", i, j, orders)
			}
		}
		orders[0] = nil
		again, e := Orders(3, searches...)
		if e != api.OK || !slices.EqualFunc(again, kept, slices.Equal) {
			t.Fatal("again", again, kept, e)
		}
	}
}

// R4: Pick leaves the orders, and those that are none, as they were.
func TestPickWritesNothing(t *testing.T) {
	orders := [][]int{{2, 2}, {1, 0, 2}, {7}, {2, 0, 1}, {0, 1, 2}}
	before := copyOf(orders)
	for search := -1; search < 9; search++ {
		Pick(orders, search)
		if !slices.EqualFunc(orders, before, slices.Equal) {
			t.Fatal("Pick", search, orders)
		}
	}
}
