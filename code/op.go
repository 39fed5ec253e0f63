package code

// take is how many values an instruction takes from the stack.
type take uint8

const (
	none take = iota
	one
	two
	countOf   // as many as A
	columnsOf // as many as columns are in C
	widthOf   // as many as the relation A has columns
)

// what is what a number of an instruction is.
type what uint8

const (
	zero     what = iota // the Op has none
	number               // any
	register             // one of the program's
	row                  // the first one of the registers of a tuple
	parts                // the first one of the registers of a constructor's Args
	count                // from 0 to MaxWidth
	slot                 // of 64
	opened               // a slot of an open ahead
	relation             // one of the program's
	twin                 // a relation as wide as A
	columns              // a set of columns of the relation B
	place                // an instruction ahead of which no value lies
)

// text is what the text of an instruction is.
type text uint8

const (
	empty      text = iota // the Op has none
	symbol                 // any that is not too long
	operator               // an operator's sign
	comparison             // a comparison's sign
	word                   // a constructor's
	shape                  // a word, `/` and a digit: a constructor's, and how many Args
)

// op is what an instruction takes and puts, and what its numbers and its text are.
type op struct {
	name    string
	takes   take
	puts    int
	a, b, c what
	s       text
}

// An Op's byte is its place here.
var ops = [...]op{
	{name: "num", puts: 1, a: number},
	{name: "text", puts: 1, s: symbol},
	{name: "reg", puts: 1, a: register},
	{name: "op", takes: two, puts: 1, b: place, s: operator},
	{name: "con", takes: countOf, puts: 1, a: count, b: place, s: word},
	{name: "let", takes: one, a: register},
	{name: "cmp", takes: two, b: place, s: comparison},
	{name: "open", takes: columnsOf, a: slot, b: relation, c: columns},
	{name: "next", a: opened, b: place, c: row},
	{name: "has", takes: widthOf, a: relation, b: place},
	{name: "not", takes: widthOf, a: relation, b: place},
	{name: "put", takes: widthOf, a: relation},
	{name: "match", a: register, b: place, c: parts, s: shape},
	{name: "some", a: relation, b: place},
	{name: "jump", a: place},
	{name: "clear", a: relation},
	{name: "swap", a: relation, b: twin},
	{name: "merge", a: relation, b: twin},
	{name: "stop"},
}

// placeOf is where an Op stands among them, or -1.
func placeOf(name string) int {
	for i, o := range ops {
		if o.name == name {
			return i
		}
	}
	return -1
}
