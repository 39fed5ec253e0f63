package term

import (
	"vestry/api"
	"vestry/sym"
)

// Store gives values numbers.
type Store struct {
	// What is held stands behind a pointer, so that two copies of a store cannot fall out over a number.
	held *held
}

// held is the Syms, and the Cons in the order in which they came. The Cons' words have a table of their own: they take no Sym's number.
type held struct {
	syms    *sym.Table
	words   *sym.Table
	nodes   []node
	numbers map[node]int
}

// node is a Con in numbers alone, so that it can be a map's key: its word's, how many Args it has, and the kind and the number of each.
type node struct {
	word    int
	width   int
	kinds   [api.MaxWidth]int
	numbers [api.MaxWidth]int
}

// New is one without values.
func New() *Store {
	return &Store{held: &held{syms: sym.New(), words: sym.New(), numbers: map[node]int{}}}
}

// Put is a value's number; it comes, if it is not there.
func (s *Store) Put(v api.Val) (int, api.Errno) {
	if !s.made() {
		return 0, api.ErrNil
	}
	if !Right(v) {
		return 0, api.ErrArg
	}
	return s.held.put(v)
}

// Get is a value's number.
func (s *Store) Get(v api.Val) (int, bool) {
	if !s.made() || !Right(v) {
		return 0, false
	}
	return s.held.get(v)
}

// Back is the value of a number.
func (s *Store) Back(kind, n int) (api.Val, bool) {
	if !s.made() {
		return api.Val{}, false
	}
	return s.held.back(kind, n)
}

// Len is how many constructors' values there are.
func (s *Store) Len() int {
	if !s.made() {
		return 0
	}
	return len(s.held.nodes)
}

func (s *Store) made() bool {
	return s != nil && s.held != nil
}

// put is the number of a value that may be.
func (h *held) put(v api.Val) (int, api.Errno) {
	switch v.Kind {
	case api.Num:
		return v.N, api.OK
	case api.Sym:
		return h.syms.Put(v.S)
	}
	n := node{width: len(v.Args)}
	for i, arg := range v.Args {
		number, e := h.put(arg)
		if e != api.OK {
			return 0, e
		}
		n.kinds[i], n.numbers[i] = arg.Kind, number
	}
	return h.putNode(v.S, n)
}

// putNode is the number of the node that has that word, and else is as n says.
func (h *held) putNode(word string, n node) (int, api.Errno) {
	if number, there := h.find(word, n); there {
		return number, api.OK
	}
	if len(h.nodes) >= api.MaxSyms {
		return 0, api.ErrFull
	}
	// There are never more words than nodes, so that where a node has room its word has.
	n.word, _ = h.words.Put(word)
	number := len(h.nodes)
	h.nodes = append(h.nodes, n)
	h.numbers[n] = number
	return number, api.OK
}

// get is the number of a value that may be, if it is there.
func (h *held) get(v api.Val) (int, bool) {
	switch v.Kind {
	case api.Num:
		return v.N, true
	case api.Sym:
		return h.syms.Get(v.S)
	}
	n := node{width: len(v.Args)}
	for i, arg := range v.Args {
		number, there := h.get(arg)
		if !there {
			return 0, false
		}
		n.kinds[i], n.numbers[i] = arg.Kind, number
	}
	return h.find(v.S, n)
}

func (h *held) find(word string, n node) (int, bool) {
	var there bool
	if n.word, there = h.words.Get(word); !there {
		return 0, false
	}
	number, there := h.numbers[n]
	return number, there
}

func (h *held) back(kind, n int) (api.Val, bool) {
	switch kind {
	case api.Num:
		return api.Val{Kind: api.Num, N: n}, true
	case api.Sym:
		return h.backSym(n)
	case api.Con:
		return h.backCon(n)
	}
	return api.Val{}, false
}

func (h *held) backSym(n int) (api.Val, bool) {
	text, there := h.syms.Text(n)
	if !there {
		return api.Val{}, false
	}
	return api.Val{Kind: api.Sym, S: text}, true
}

func (h *held) backCon(n int) (api.Val, bool) {
	if n < 0 || n >= len(h.nodes) {
		return api.Val{}, false
	}
	con := h.nodes[n]
	v := api.Val{Kind: api.Con}
	v.S, _ = h.words.Text(con.word)
	// Made anew each time: two equal Args share a number, and may share no memory.
	for i := range con.width {
		arg, _ := h.back(con.kinds[i], con.numbers[i])
		v.Args = append(v.Args, arg)
	}
	return v, true
}
