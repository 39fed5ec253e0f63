package btree

import (
	"iter"
	"slices"

	"vestry/tuple"
)

// room is how many tuples a node has at most.
const room = 15

// node is a node of a tree; nil is a tree without tuples. No node is written into once it stands in a tree: what comes makes the nodes on its way anew, so that a going over that began meets what was there then.
type node struct {
	tuples [][]int // rising
	kids   []*node // of a leaf none, else one more than tuples: what stands ahead of each tuple, and behind the last one
}

// find is the place of the first tuple that is not below t, and whether it is t.
func (n *node) find(order, t []int) (int, bool) {
	return slices.BinarySearchFunc(n.tuples, t, func(a, b []int) int {
		return tuple.Cmp(order, a, b)
	})
}

// kid is what stands ahead of the tuple at a place.
func (n *node) kid(at int) *node {
	if len(n.kids) == 0 {
		return nil
	}
	return n.kids[at]
}

func (n *node) has(order, t []int) bool {
	if n == nil {
		return false
	}
	at, there := n.find(order, t)
	return there || n.kid(at).has(order, t)
}

// from goes over the tuples that are not below low, rising. They are the tree's own.
func (n *node) from(order, low []int) iter.Seq[[]int] {
	return func(yield func([]int) bool) {
		if n == nil {
			return
		}
		first, _ := n.find(order, low)
		for at := first; at <= len(n.tuples); at++ {
			for t := range n.kid(at).from(order, low) {
				if !yield(t) {
					return
				}
			}
			if at < len(n.tuples) && !yield(n.tuples[at]) {
				return
			}
		}
	}
}

// with is the tree with a tuple that is not in it. Its uppermost node may have one tuple too many.
func (n *node) with(order, t []int) *node {
	if n == nil {
		return &node{tuples: [][]int{t}}
	}
	at, _ := n.find(order, t)
	if kid := n.kid(at); kid != nil {
		return n.adopt(at, kid.with(order, t))
	}
	return &node{tuples: slices.Insert(slices.Clone(n.tuples), at, t)}
}

// adopt is the node with another kid at a place, or with its halves, if it has a tuple too many.
func (n *node) adopt(at int, kid *node) *node {
	kids := slices.Clone(n.kids)
	if len(kid.tuples) <= room {
		kids[at] = kid
		return &node{tuples: n.tuples, kids: kids}
	}
	left, middle, right := kid.split()
	kids[at] = right
	return &node{
		tuples: slices.Insert(slices.Clone(n.tuples), at, middle),
		kids:   slices.Insert(kids, at, left),
	}
}

// grown is the tree with a node above the uppermost one, if that has a tuple too many.
func (n *node) grown() *node {
	if len(n.tuples) <= room {
		return n
	}
	left, middle, right := n.split()
	return &node{tuples: [][]int{middle}, kids: []*node{left, right}}
}

// split is the node in two halves, and the tuple between them.
func (n *node) split() (*node, []int, *node) {
	half := len(n.tuples) / 2
	left := &node{tuples: n.tuples[:half]}
	right := &node{tuples: n.tuples[half+1:]}
	if len(n.kids) > 0 {
		left.kids, right.kids = n.kids[:half+1], n.kids[half+1:]
	}
	return left, n.tuples[half], right
}
