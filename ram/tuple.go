package ram

import (
	"cmp"
	"slices"

	"vestry/api"
	"vestry/term"
)

// order is layer 3's Order. Constructors' values are held against each other part by part here: layer 3 would look through both each time whether they may be.
func order(a, b api.Val) int {
	switch {
	case a.Kind == api.Num && b.Kind == api.Num:
		return cmp.Compare(a.N, b.N)
	case a.Kind != api.Con && b.Kind != api.Con:
		return term.Order(a, b)
	case a.Kind != b.Kind:
		return cmp.Compare(a.Kind, b.Kind)
	case a.S != b.S:
		return cmp.Compare(a.S, b.S)
	case len(a.Args) != len(b.Args):
		return cmp.Compare(len(a.Args), len(b.Args))
	case len(a.Args) == 0 || &a.Args[0] == &b.Args[0]:
		return 0
	}
	return orderTuples(a.Args, b.Args)
}

// orderTuples is how two tuples stand that are as long as each other.
func orderTuples(a, b []api.Val) int { return slices.CompareFunc(a, b, order) }

func sameTuples(a, b []api.Val) bool { return orderTuples(a, b) == 0 }

// rising are tuples, rising, each once.
func rising(tuples [][]api.Val) [][]api.Val {
	return slices.CompactFunc(slices.SortedFunc(slices.Values(tuples), orderTuples), sameTuples)
}

// place is the place of a tuple among rising ones, and whether it is there.
func place(tuples [][]api.Val, t []api.Val) (int, bool) {
	return slices.BinarySearchFunc(tuples, t, orderTuples)
}

// merged is a new list of the tuples of two rising ones, rising, each once.
func merged(a, b [][]api.Val) [][]api.Val {
	all := make([][]api.Val, 0, len(a)+len(b))
	for len(a) > 0 && len(b) > 0 {
		ahead := orderTuples(a[0], b[0])
		if ahead <= 0 {
			all, a = append(all, a[0]), a[1:]
		} else {
			all = append(all, b[0])
		}
		if ahead >= 0 {
			b = b[1:]
		}
	}
	return append(append(all, a...), b...)
}

func keyExprs(keys []api.RKey) []api.RExpr {
	list := make([]api.RExpr, len(keys))
	for i, k := range keys {
		list[i] = k.X
	}
	return list
}

// isLike tells whether a tuple's columns are as keys want them, whose values are these.
func isLike(t []api.Val, keys []api.RKey, values []api.Val) bool {
	for i, k := range keys {
		if order(t[k.Col], values[i]) != 0 {
			return false
		}
	}
	return true
}
