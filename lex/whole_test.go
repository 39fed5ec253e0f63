package lex

import (
	"iter"
	"math/big"
	"regexp"
	"slices"
	"strings"
	"testing"

	"vestry/api"
)

// gaps: each of the four blanks, both comments, and several of them.
func gaps() []string {
	return []string{" ", "\t", "\n", "\r", "\r\n", "//\n", "// c\n", "// \"\x00\n", "//\r\n", "/**/", "/* c */", "/***/", "/*/*/", "/*\n\"*/", " \t\n\r// c\n/* c */", "/**//**/", "// a\n// b\n"}
}

// pieces: what texts are made of, among them halves of tokens and of gaps.
func pieces() []string {
	return []string{
		"a", "_", "Z9", "decl", ".decl", ".init", ".", "0", "1", "9223372036854775807", "9223372036854775808", strings.Repeat("w", 62),
		`"`, `\`, "n", "\n", " ", "/", "*", ":", "-", "<", "=", "!", ">", "$", "(", "#", "\x00", "\xc3",
	}
}

// texts: all texts of at most so many pieces.
func texts(most int) iter.Seq[string] {
	return func(yield func(string) bool) { extend("", most, yield) }
}

func extend(s string, most int, yield func(string) bool) bool {
	if !yield(s) {
		return false
	}
	if most == 0 {
		return true
	}
	for _, piece := range pieces() {
		if !extend(s+piece, most-1, yield) {
			return false
		}
	}
	return true
}

var (
	gapForm    = regexp.MustCompile(`^(?:[ \t\n\r]|//[^\n]*|(?s:/\*.*?\*/))+`)
	wordForm   = regexp.MustCompile(`^[A-Za-z_][A-Za-z0-9_]*(?:\.[A-Za-z_][A-Za-z0-9_]*)*`)
	numberForm = regexp.MustCompile(`^(?:0|[1-9][0-9]*)`)
	behindForm = regexp.MustCompile(`^[A-Za-z0-9_]`)
	textForm   = regexp.MustCompile(`^"((?:[^"\\\n]|\\["\\nt])*)"`)
	rightForm  = regexp.MustCompile(`^"(?:[^"\\\n]|\\["\\nt])*`)
	headForm   = regexp.MustCompile(`^\.(?:decl|type|comp|init)(?:[^A-Za-z0-9_]|$)`)
	signForm   = regexp.MustCompile(`^(?::-|<:|<=|>=|!=|[(){},.:|!=<>+\-*/%$])`)
)

// span: a token, and the place behind it.
type span struct {
	tok api.Tok
	end int
}

// told: what the document says of a text, by patterns.
func told(s string) ([]span, api.Fault) {
	if len(s) > 65536 {
		return nil, api.Fault{Why: api.ErrLong}
	}
	var list []span
	for at := len(gapForm.FindString(s)); at < len(s); {
		one, fault := toldAt(s, at)
		if fault != (api.Fault{}) {
			return nil, fault
		}
		list = append(list, one)
		at = one.end + len(gapForm.FindString(s[one.end:]))
	}
	return list, api.Fault{}
}

// toldAt: what the document says of the token at a byte.
func toldAt(s string, at int) (span, api.Fault) {
	rest := s[at:]
	if strings.HasPrefix(rest, "/*") {
		return span{}, api.Fault{Why: api.ErrForm, At: at}
	}
	if found := wordForm.FindString(rest); found != "" {
		if len(found) > 64 {
			return span{}, api.Fault{Why: api.ErrLong, At: at}
		}
		return span{word(found, at), at + len(found)}, api.Fault{}
	}
	if found := numberForm.FindString(rest); found != "" {
		return toldNumber(s, found, at)
	}
	if strings.HasPrefix(rest, `"`) {
		return toldText(s, at)
	}
	if headForm.MatchString(rest) {
		return span{mark(rest[:5], at), at + 5}, api.Fault{}
	}
	if found := signForm.FindString(rest); found != "" {
		return span{mark(found, at), at + len(found)}, api.Fault{}
	}
	return span{}, api.Fault{Why: api.ErrForm, At: at}
}

func toldNumber(s, digits string, at int) (span, api.Fault) {
	end := at + len(digits)
	if behindForm.MatchString(s[end:]) {
		return span{}, api.Fault{Why: api.ErrForm, At: end}
	}
	n, _ := new(big.Int).SetString(digits, 10)
	if !n.IsInt64() {
		return span{}, api.Fault{Why: api.ErrOver, At: at}
	}
	return span{numeral(int(n.Int64()), at), end}, api.Fault{}
}

func toldText(s string, at int) (span, api.Fault) {
	if found := textForm.FindStringSubmatch(s[at:]); found != nil {
		value := strings.NewReplacer(`\"`, `"`, `\\`, `\`, `\n`, "\n", `\t`, "\t").Replace(found[1])
		return span{quoted(value, at), at + len(found[0])}, api.Fault{}
	}
	right := at + len(rightForm.FindString(s[at:]))
	if right < len(s) {
		return span{}, api.Fault{Why: api.ErrForm, At: right}
	}
	return span{}, api.Fault{Why: api.ErrForm, At: at}
}

// toksOf: the spans' tokens.
func toksOf(spans []span) []api.Tok {
	var list []api.Tok
	for _, one := range spans {
		list = append(list, one.tok)
	}
	return list
}

// check: P8.1, P8.3 and P8.5 hold of a text.
func check(t *testing.T, s string) {
	t.Helper()
	spans, fault := told(s)
	toks, got := Tokens(s)
	if got != fault || !slices.Equal(toks, toksOf(spans)) {
		t.Fatalf("%q: %v %v, want %v %v", s, toks, got, toksOf(spans), fault)
	}
	end := 0
	for i, one := range spans {
		between := s[end:one.tok.At]
		if between != gapForm.FindString(between) || one.end <= one.tok.At {
			t.Fatalf("%q: %q ahead of %v", s, between, one.tok)
		}
		end = one.end
		ahead, fault := Tokens(s[:one.tok.At])
		if fault != (api.Fault{}) || !slices.Equal(ahead, toks[:i]) {
			t.Fatalf("%q: %v %v ahead of %v", s, ahead, fault, one.tok)
		}
	}
}

// P8.1, P8.3, P8.5: all texts of a few pieces have the tokens, or the fault, that the document says.
func TestAllSmallTexts(t *testing.T) {
	for s := range texts(3) {
		check(t, s)
	}
}

// programs: texts with tokens of all kinds.
func programs() []string {
	return []string{
		".decl a(x: number) // c\n.type T = Leaf {} | Node {v: number, l: T}\nt($Node(1, $Leaf())).",
		".comp W { .decl r(x: number) r(x) :- e(x, _). } .init a = W a.r(1).",
		"p(x, y) :- e(x, y), !q.p(y, x), x * 2 + y / 3 - 1 % 4 <= 9223372036854775807, x != \"a\\\"\\\\\\n\\t\", x<y, y>=0, x>1, x=x.",
		".type S <: number .decl .declx.decl a.decl 0.a 1.5 a. b ..",
		"<::-:--!=!<=<>=>$(){}|,+ *%/ / *",
	}
}

// P8.3 and P8.5, and P8.1 of longer texts.
func TestPrograms(t *testing.T) {
	for _, s := range programs() {
		check(t, s)
		for at := range s {
			check(t, s[:at])
			check(t, s[at:])
			check(t, s[:at]+"#"+s[at:])
			check(t, s[:at]+s[at+1:])
		}
	}
}

// P8.4: gaps between two tokens turn nothing but At.
func TestGapsTurnNothing(t *testing.T) {
	all := programs()
	for s := range texts(2) {
		all = append(all, s)
	}
	for _, s := range all {
		spans, _ := told(s)
		for _, gap := range gaps() {
			spread(t, s, spans, gap)
		}
	}
}

// spread: with the gap put ahead of, between and behind its tokens, a text has the same ones, further behind.
func spread(t *testing.T, s string, spans []span, gap string) {
	t.Helper()
	text := gap
	var want []api.Tok
	for _, one := range spans {
		moved := one.tok
		moved.At = len(text)
		want = append(want, moved)
		text += s[one.tok.At:one.end]
		// A `/` with a comment directly behind it would itself begin one.
		if moved.Text == "/" && moved.Kind == api.TokSign && strings.HasPrefix(gap, "/") {
			text += " "
		}
		text += gap
	}
	if got, fault := Tokens(text); fault != (api.Fault{}) || !slices.Equal(got, want) {
		t.Fatalf("%q: %v %v, want %v", text, got, fault, want)
	}
}

// P8.4: where gaps stand between two tokens, others in their place turn nothing but At.
func TestGapsAreAlike(t *testing.T) {
	plain := func(s string) []api.Tok {
		toks, fault := Tokens(s)
		if fault != (api.Fault{}) {
			t.Fatal(s, fault)
		}
		for i := range toks {
			toks[i].At = 0
		}
		return toks
	}
	for _, s := range []string{"a~.~b", "a~b", "1~2", "0~1", ".decl~x", "<~=", ":~-", "!~=", "a.b~.c", "\"\"~\"\"", ".~decl", "*~/"} {
		want := plain(strings.ReplaceAll(s, "~", " "))
		for _, gap := range gaps() {
			if got := plain(strings.ReplaceAll(s, "~", gap)); !slices.Equal(got, want) {
				t.Errorf("%q with %q: %v, want %v", s, gap, got, want)
			}
		}
	}
}

// P8.1 to P8.5, and R1: whatever the bytes are.
func FuzzTokens(f *testing.F) {
	for _, s := range programs() {
		f.Add(s)
	}
	f.Add("\"\\")
	f.Add("/*/")
	f.Add("\xff\x00")
	f.Add(strings.Repeat("9", 70))
	f.Fuzz(func(t *testing.T, s string) {
		check(t, s)
		toks, fault := Tokens(s)
		one := fault == (api.Fault{}) && slices.Equal(toks, []api.Tok{word(s, 0)})
		if Name(s) != one || Word(s) != (one && !strings.Contains(s, ".")) {
			t.Fatalf("%q: %v %v", s, Name(s), Word(s))
		}
	})
}
