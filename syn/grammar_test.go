package syn

import (
	"math/rand"
	"strings"
	"testing"

	"vestry/api"
	"vestry/lex"
)

// document is the document's grammar. A call is a name behind which `(` stands, input and output are these words where none does, and `many` is what is one too many.
func document() string {
	s := `
Prog   = { Item } .
Item   = ".type" word ( "<:" name | "=" Ctor { "|" Ctor } )
       | ".decl" word "(" [ Fields ] ")" { input | output }
       | Comp
       | ".init" word "=" name
       | name Args [ ":-" Lits ] "." .
Comp   = ".comp" word [ ":" name { "," name } ] "{" Prog "}" .
Ctor   = word "{" [ Fields ] "}" .
Field  = word ":" name .
Args   = "(" [ Exprs ] ")" .
Lit    = "!" name Args | call Args | Expr ( "=" | "!=" | "<" | "<=" | ">" | ">=" ) Expr .
Expr   = Term { ( "+" | "-" ) Term } .
Term   = Factor { ( "*" | "/" | "%" ) Factor } .
Factor = num | text | word | "_" | "-" Factor | "(" Expr ")" | "$" word Args .
`
	return s + "Fields = " + upTo(8, "Field") + " . Lits = " + upTo(16, "Lit") + " . Exprs = " + upTo(8, "Expr") + " ."
}

func upTo(n int, part string) string {
	return strings.Repeat(part+` [ "," `, n) + "many" + strings.Repeat(" ]", n)
}

// node is a piece of the grammar: a word or sign (w), pieces behind one another (s), a choice (|), what may stand there once ([) or often ({), and where something deep ends (<).
type node struct {
	kind byte
	text string
	kids []*node
}

func readGrammar(s string) map[string]*node {
	rules := map[string]*node{}
	for words := strings.Fields(s); len(words) > 0; {
		var body *node
		name := words[0]
		body, words = readChoice(words[2:])
		rules[name] = body
		words = words[1:]
	}
	return rules
}

func readChoice(words []string) (*node, []string) {
	choice := &node{kind: '|'}
	for {
		seq := &node{kind: 's'}
		for !strings.Contains(" | ) ] } . ", " "+words[0]+" ") {
			switch word := words[0]; word {
			case "(", "[", "{":
				inner, rest := readChoice(words[1:])
				seq.kids = append(seq.kids, &node{kind: word[0], kids: []*node{inner}})
				words = rest[1:]
			default:
				seq.kids = append(seq.kids, &node{kind: 'w', text: word})
				words = words[1:]
			}
		}
		choice.kids = append(choice.kids, seq)
		if words[0] != "|" {
			return choice, words
		}
		words = words[1:]
	}
}

// frame is what is still to come; way is one way to read what stood there so far.
type frame struct {
	piece *node
	next  *frame
}
type way struct {
	top         *frame
	items, deep int
}

// look is what may stand at a token.
type look struct {
	rules     map[string]*node
	ends      bool
	many      bool
	deep      bool
	deepComp  bool
	terminals []string
	behind    []way
}

func (l *look) expand(w way) {
	if w.top == nil {
		l.ends = true
		return
	}
	piece := w.top.piece
	w.top = w.top.next
	with := func(pieces ...*node) way {
		out := w
		for i := len(pieces) - 1; i >= 0; i-- {
			out.top = &frame{pieces[i], out.top}
		}
		return out
	}
	switch piece.kind {
	case 's':
		l.expand(with(piece.kids...))
	case '|', '(':
		for _, kid := range piece.kids {
			l.expand(with(kid))
		}
	case '[':
		l.expand(w)
		l.expand(with(piece.kids[0]))
	case '{':
		l.expand(w)
		l.expand(with(piece.kids[0], piece))
	case '<':
		w.deep--
		l.expand(w)
	case 'w':
		l.word(piece.text, w)
	}
}

func (l *look) word(text string, w way) {
	body := l.rules[text]
	isDeep := text == "Expr" || text == "Factor" || text == "Comp"
	switch {
	case text == "many" || text == "Item" && w.items == 96:
		l.many = true
		return
	case isDeep && w.deep == 32:
		l.deep = l.deep || text != "Comp"
		l.deepComp = l.deepComp || text == "Comp"
		return
	case body == nil:
		l.terminals = append(l.terminals, text)
		l.behind = append(l.behind, w)
		return
	case text == "Item":
		w.items++
	case isDeep:
		w.deep++
		w.top = &frame{&node{kind: '<'}, w.top}
	}
	w.top = &frame{body, w.top}
	l.expand(w)
}

// fits: whether a token (and the one behind it) is one of the grammar's.
func fits(terminal string, tok, behind api.Tok) bool {
	open := behind.Kind == api.TokSign && behind.Text == "("
	name := tok.Kind == api.TokWord
	switch terminal {
	case "name":
		return name
	case "word":
		return name && tok.Text != "_" && !strings.Contains(tok.Text, ".")
	case "call":
		return name && open
	case "input", "output":
		return name && tok.Text == terminal && !open
	case `"_"`:
		return name && tok.Text == "_"
	case "num":
		return tok.Kind == api.TokNum
	case "text":
		return tok.Kind == api.TokText
	}
	return tok.Kind == api.TokSign && `"`+tok.Text+`"` == terminal
}

// grammarFault: the fault that the document asks for, found by following all ways through the grammar at once.
func grammarFault(rules map[string]*node, s string) api.Fault {
	toks, fault := lex.Tokens(s)
	if fault.Why != api.OK {
		return fault
	}
	ways := []way{{top: &frame{&node{kind: 'w', text: "Prog"}, nil}}}
	toks = append(toks, api.Tok{At: len(s)}, api.Tok{At: len(s)})
	for n, tok := range toks[:len(toks)-1] {
		l := &look{rules: rules}
		for _, w := range ways {
			l.expand(w)
		}
		if tok.Kind == 0 && l.ends {
			return api.Fault{}
		}
		ways = nil
		for i, terminal := range l.terminals {
			if fits(terminal, tok, toks[n+1]) {
				ways = append(ways, l.behind[i])
			}
		}
		switch {
		case len(ways) > 0:
		case l.many:
			return api.Fault{Why: api.ErrMany, At: tok.At}
		case l.deep || l.deepComp && tok.Kind == api.TokSign && tok.Text == ".comp":
			return api.Fault{Why: api.ErrDeep, At: tok.At}
		default:
			return api.Fault{Why: api.ErrTok, At: tok.At}
		}
	}
	panic("the text's end was not seen")
}

// asGrammar: Parse tells the fault that the grammar tells.
func asGrammar(t *testing.T, rules map[string]*node, s string) api.Fault {
	t.Helper()
	_, fault := Parse(s)
	if want := grammarFault(rules, s); fault != want {
		t.Fatalf("%q: %v, want %v", s, fault, want)
	}
	return fault
}

// P9.1: all short texts of tokens, as far as they are right up to their last token.
func TestShortTexts(t *testing.T) {
	rules := readGrammar(document())
	tokens := []string{"input"}
	for _, k := range kinds {
		if k[0] != "end" {
			tokens = append(tokens, k[1])
		}
	}
	asGrammar(t, rules, "")
	begun := []string{""}
	for range 6 {
		var longer []string
		for _, s := range begun {
			for _, tok := range tokens {
				next := s + tok + " "
				if fault := asGrammar(t, rules, next); fault.Why == api.OK || fault.At == len(next) {
					longer = append(longer, next)
				}
			}
		}
		begun = longer
	}
	if len(begun) < 1000 {
		t.Errorf("%d texts were left", len(begun))
	}
}

// nearLimits are programs in which something is as wide, long, many or deep as it may be, or nearly.
func nearLimits() []string {
	list := func(n int, part string) string { return times(n, part, " , ") }
	repeat := strings.Repeat
	return []string{
		".type T = L { } | N { " + list(8, "x : a.b") + " } .decl r ( " + list(7, "x : _") + " ) input output output",
		"p ( " + list(8, "x") + " ) :- ! q ( " + list(7, "1 + - x") + " ) , $A ( " + list(8, "_") + " ) = \"a\" .",
		"p ( ) :- " + list(16, "q ( )") + " . .decl e ( ) input",
		"p ( ) :- " + list(15, "x < ( y )") + " , ! a.b ( - 1 ) .",
		repeat("p ( ) . ", 94) + ".comp C { .decl r ( ) output }",
		".comp C : D , e.F { " + repeat(".type T <: U ", 40) + ".comp E { " + repeat(".init a = B ", 50) + "} .init e = E } .decl r ( ) input",
		"p ( " + repeat("( ", 15) + "x" + repeat(" )", 15) + " ) :- " + repeat("- ", 29) + "3 < x .",
		"p ( " + repeat("$A ( 1 , ", 15) + "- 1" + repeat(" )", 15) + " ) .",
		repeat(".comp C { ", 31) + "p ( ) :- q ( ) , ! r ( ) . .comp D { }" + repeat(" }", 31),
		repeat(".comp C { ", 29) + "p ( - x ) :- q ( 1 ) , y = ( z ) ." + repeat(" }", 29),
		repeat("p ( ) . ", 62) + repeat(".comp C { ", 32) + ".comp D { }" + repeat(" }", 32),
		repeat(".comp C { ", 32) + "p ( ) :- " + list(16, "q ( )") + " ." + repeat(" }", 32),
	}
}

// P9.1: programs at the limits, in each of which one token is taken away, put there or made another one.
func TestNearLimits(t *testing.T) {
	rules := readGrammar(document())
	seen := map[api.Errno]int{}
	for _, s := range nearLimits() {
		toks := strings.Fields(s)
		for i := range toks {
			// Of what comes again and again the ends are enough.
			if i > 8 && i < len(toks)-24 && i%29 != 0 {
				continue
			}
			ahead, behind := strings.Join(toks[:i], " "), strings.Join(toks[i+1:], " ")
			for _, k := range kinds {
				seen[asGrammar(t, rules, ahead+" "+k[1]+" "+behind).Why]++
				seen[asGrammar(t, rules, ahead+" "+k[1]+" "+toks[i]+" "+behind).Why]++
			}
			seen[asGrammar(t, rules, ahead).Why]++
		}
		asGrammar(t, rules, s)
		asGrammar(t, rules, s+" "+s)
	}
	for _, why := range []api.Errno{api.OK, api.ErrMany, api.ErrDeep, api.ErrTok} {
		if seen[why] < 20 {
			t.Errorf("%v was seen %d times", why, seen[why])
		}
	}
}

// P9.1, P9.3: programs in which some tokens were changed tell the grammar's fault, and go on doing so whatever comes behind the token behind it.
func TestChangedPrograms(t *testing.T) {
	rules := readGrammar(document())
	random := rand.New(rand.NewSource(9))
	tails := []string{"", " p ( ) .", " ) ) )", strings.Repeat(" (", 40), strings.Repeat(" p ( ) .", 97), " , x : y", " } } .comp A {"}
	for range 3000 {
		w := newWriter(random)
		w.prog(2, 4)
		toks := w.toks
		for range 1 + random.Intn(3) {
			if len(toks) > 0 {
				toks[random.Intn(len(toks))] = kinds[random.Intn(len(kinds))][1]
			}
		}
		s := strings.Join(toks, " ")
		fault := asGrammar(t, rules, s)
		cut := behindNext(s, fault)
		if cut < 0 {
			continue
		}
		for _, tail := range tails {
			if _, again := Parse(s[:cut] + tail); again != fault {
				t.Fatalf("%q: %v, but %v with %q behind", s[:cut], fault, again, tail)
			}
		}
	}
}

// behindNext: where the token ends behind the one at which the fault is; below 0, if there is none.
func behindNext(s string, fault api.Fault) int {
	toks, why := lex.Tokens(s)
	if why.Why != api.OK || fault.Why == api.OK {
		return -1
	}
	for i, tok := range toks {
		if tok.At != fault.At || i+1 == len(toks) {
			continue
		}
		if i+2 == len(toks) {
			return len(s)
		}
		return toks[i+2].At - 1
	}
	return -1
}

// P9.1: whatever the bytes are.
func FuzzGrammar(f *testing.F) {
	for _, s := range nearLimits() {
		f.Add(s)
	}
	for _, s := range []string{"", "p(x, y) :- e(x, z), p(z, y), x < -3.", ".decl e() input(1).", "p() :- a.b < 1.", "p(x", "p(\"a", "\x00"} {
		f.Add(s)
	}
	rules := readGrammar(document())
	f.Fuzz(func(t *testing.T, s string) {
		asGrammar(t, rules, s)
	})
}
