package chain

import "slices"

// none stands where a search has no other one above or below it.
const none = -1

// pairs are searches in rows that grow: each is paired with at most one that is above it, which contains it, and with at most one below. The more pairs there are, the fewer are the rows.
type pairs struct {
	searches []int
	above    []int
	below    []int
}

// paired are the searches in the fewest rows: by Dilworth's theorem as many as the most searches of which no two contain one another.
func paired(searches []int) pairs {
	// 0 is in all of them, so that it begins one of their rows and makes no further one; and where there are none, it is the row that there must be.
	list := append([]int{0}, searches...)
	slices.Sort(list)
	list = slices.Compact(list)
	p := pairs{searches: list, above: nones(len(list)), below: nones(len(list))}
	for low := range list {
		p.pair(low)
	}
	return p
}

// pair finds one to be above low, where there is one: if it is taken, the one that has it gives way, as soon as there is another one for that.
// Who finds no other one stays, and the path goes back to the one that asked it. What has been asked for once is not asked for again, so that each is on the path once.
func (p pairs) pair(low int) {
	askers := nones(len(p.searches))
	path := []int{low}
back:
	for len(path) > 0 {
		last := path[len(path)-1]
		for high := range p.searches {
			if askers[high] != none || !p.within(last, high) {
				continue
			}
			askers[high] = last
			if p.below[high] == none {
				p.giveWay(askers, high)
				return
			}
			path = append(path, p.below[high])
			continue back
		}
		path = path[:len(path)-1]
	}
}

// giveWay pairs high with its asker, what that one had with its own asker, and so on, till one had none: the one for which the asking began.
func (p pairs) giveWay(askers []int, high int) {
	for high != none {
		low := askers[high]
		had := p.above[low]
		p.above[low], p.below[high] = high, low
		high = had
	}
}

// within tells whether the search at high contains the one at low, and is another one.
func (p pairs) within(low, high int) bool {
	return low != high && p.searches[low]&^p.searches[high] == 0
}

// firsts are the places of the searches that begin a row.
func (p pairs) firsts() []int {
	var list []int
	for place, below := range p.below {
		if below == none {
			list = append(list, place)
		}
	}
	return list
}

// from is the row that begins at a place.
func (p pairs) from(place int) []int {
	var row []int
	for place != none {
		row = append(row, p.searches[place])
		place = p.above[place]
	}
	return row
}

// nones are as many places that are none.
func nones(count int) []int {
	return slices.Repeat([]int{none}, count)
}
