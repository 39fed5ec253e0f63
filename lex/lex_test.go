package lex

import (
	"slices"
	"strings"
	"testing"

	"vestry/api"
)

// word, numeral, quoted, mark: tokens as they are answered.
func word(text string, at int) api.Tok   { return api.Tok{Kind: api.TokWord, Text: text, At: at} }
func numeral(n, at int) api.Tok          { return api.Tok{Kind: api.TokNum, N: n, At: at} }
func quoted(text string, at int) api.Tok { return api.Tok{Kind: api.TokText, Text: text, At: at} }
func mark(text string, at int) api.Tok   { return api.Tok{Kind: api.TokSign, Text: text, At: at} }

// has: just these tokens are answered, and no fault.
func has(t *testing.T, s string, toks ...api.Tok) {
	t.Helper()
	if got, fault := Tokens(s); fault != (api.Fault{}) || !slices.Equal(got, toks) {
		t.Errorf("%.90q: %v %v, want %v", s, got, fault, toks)
	}
}

// fails: this fault is answered, and no tokens.
func fails(t *testing.T, s string, why api.Errno, at int) {
	t.Helper()
	if got, fault := Tokens(s); fault != (api.Fault{Why: why, At: at}) || len(got) != 0 {
		t.Errorf("%.90q: %v %v, want %v at %d", s, got, fault, why, at)
	}
}

// P8.1: the document's examples, and a program.
func TestExamples(t *testing.T) {
	has(t, ".decl a(x: number) // c",
		mark(".decl", 0), word("a", 6), mark("(", 7), word("x", 8), mark(":", 9), word("number", 11), mark(")", 17))
	has(t, "d.path(1).", word("d.path", 0), mark("(", 6), numeral(1, 7), mark(")", 8), mark(".", 9))
	fails(t, "007", api.ErrForm, 1)
	has(t, "p(x) :- q(\"a\\n\", _),\n\t!r(-12).",
		word("p", 0), mark("(", 1), word("x", 2), mark(")", 3), mark(":-", 5),
		word("q", 8), mark("(", 9), quoted("a\n", 10), mark(",", 15), word("_", 17), mark(")", 18), mark(",", 19),
		mark("!", 22), word("r", 23), mark("(", 24), mark("-", 25), numeral(12, 26), mark(")", 28), mark(".", 29))
}

// P8.1: texts without tokens.
func TestNothing(t *testing.T) {
	for _, s := range []string{"", " ", "\t", "\n", "\r", " \t\r\n", "//", "// c", "//\n", "/**/", "/***/", "/*/*/", "/*\n*/", "//\n//", "/* // */", "// /*", "// \"", "/* \" */"} {
		has(t, s)
	}
}

// P8.1: how many bytes a text may have. A text that is too long is told so, whatever else is wrong in it.
func TestTextLength(t *testing.T) {
	blanks := strings.Repeat(" ", api.MaxText)
	has(t, blanks)
	has(t, blanks[1:]+"a", word("a", api.MaxText-1))
	fails(t, blanks+" ", api.ErrLong, 0)
	fails(t, blanks+"a", api.ErrLong, 0)
	fails(t, "\x00"+blanks, api.ErrLong, 0)
	fails(t, "/*"+blanks, api.ErrLong, 0)
	fails(t, blanks[1:]+"#", api.ErrForm, api.MaxText-1)
	has(t, "\""+blanks[2:]+"\"", quoted(blanks[2:], 0))
	fails(t, "\""+blanks[1:], api.ErrForm, 0)
	fails(t, strings.Repeat("9", api.MaxText+1), api.ErrLong, 0)
	if got, fault := Tokens(strings.Repeat("(", api.MaxText)); fault != (api.Fault{}) || len(got) != api.MaxText {
		t.Error(len(got), fault)
	}
}

// P8.1: words, and words with points between.
func TestWords(t *testing.T) {
	for _, s := range []string{"a", "z", "A", "Z", "_", "__", "_1", "a1", "Z_9z", "decl", "input", "a.b", "a._", "_._", "a1.b2.c3", "a.decl", "a.decl.type", "A.Z.a.z"} {
		has(t, s, word(s, 0))
		has(t, " "+s+" ", word(s, 1))
		has(t, "("+s+")", mark("(", 0), word(s, 1), mark(")", len(s)+1))
		has(t, s+"\""+s+"\"", word(s, 0), quoted(s, len(s)))
	}
	has(t, "a b", word("a", 0), word("b", 2))
	has(t, "a/**/b", word("a", 0), word("b", 5))
}

// P8.1: a point behind a word is in the name, if a word stands directly behind it, and else a sign.
func TestPoints(t *testing.T) {
	has(t, "a.", word("a", 0), mark(".", 1))
	has(t, "a.b.", word("a.b", 0), mark(".", 3))
	has(t, "a. b", word("a", 0), mark(".", 1), word("b", 3))
	has(t, "a .b", word("a", 0), mark(".", 2), word("b", 3))
	has(t, "a.\nb", word("a", 0), mark(".", 1), word("b", 3))
	has(t, "a./**/b", word("a", 0), mark(".", 1), word("b", 6))
	has(t, "a/**/.b", word("a", 0), mark(".", 5), word("b", 6))
	has(t, "a.1", word("a", 0), mark(".", 1), numeral(1, 2))
	has(t, "a.b.1", word("a.b", 0), mark(".", 3), numeral(1, 4))
	has(t, "a..b", word("a", 0), mark(".", 1), mark(".", 2), word("b", 3))
	has(t, "a.(", word("a", 0), mark(".", 1), mark("(", 2))
	has(t, "a.\"b\"", word("a", 0), mark(".", 1), quoted("b", 2))
	has(t, ".a", mark(".", 0), word("a", 1))
	has(t, ".a.b", mark(".", 0), word("a.b", 1))
	has(t, "1.a", numeral(1, 0), mark(".", 1), word("a", 2))
	has(t, "1.5", numeral(1, 0), mark(".", 1), numeral(5, 2))
	fails(t, "a.1b", api.ErrForm, 3)
	fails(t, "a.\x80", api.ErrForm, 2)
}

// P8.1: how many bytes a TokWord may have, points among them. What is too long is not cut at a point.
func TestWordLength(t *testing.T) {
	most := strings.Repeat("a", api.MaxName)
	for _, s := range []string{most, strings.Repeat("_", api.MaxName), "a." + most[2:], most[2:] + ".b", strings.Repeat("a.", 31) + "bc"} {
		if len(s) != 64 {
			t.Fatal(s)
		}
		has(t, s, word(s, 0))
		has(t, "("+s+")", mark("(", 0), word(s, 1), mark(")", 65))
		has(t, s+".", word(s, 0), mark(".", 64))
		has(t, s+".1", word(s, 0), mark(".", 64), numeral(1, 65))
		has(t, s+" "+s, word(s, 0), word(s, 65))
		for _, more := range []string{"a", "1", "_", ".b", ".b.c"} {
			fails(t, s+more, api.ErrLong, 0)
			fails(t, "( "+s+more+" #", api.ErrLong, 2)
		}
	}
	fails(t, most[1:]+".b", api.ErrLong, 0)
	has(t, most[1:]+".", word(most[1:], 0), mark(".", 63))
	fails(t, "# "+most+"a", api.ErrForm, 0)
	fails(t, strings.Repeat("a", api.MaxText), api.ErrLong, 0)
	has(t, ".decl "+most, mark(".decl", 0), word(most, 6))
	long := most + most
	has(t, "\""+long+"\"//"+long+"\n/*"+long+"*/", quoted(long, 0))
}

// P8.1: numbers, up to 2^63 - 1 and beyond.
func TestNumbers(t *testing.T) {
	has(t, "0", numeral(0, 0))
	has(t, "7", numeral(7, 0))
	has(t, "10", numeral(10, 0))
	has(t, "1234567890", numeral(1234567890, 0))
	has(t, "-5", mark("-", 0), numeral(5, 1))
	has(t, "1-2", numeral(1, 0), mark("-", 1), numeral(2, 2))
	has(t, "1 2", numeral(1, 0), numeral(2, 2))
	has(t, "0 0", numeral(0, 0), numeral(0, 2))
	has(t, "0.0", numeral(0, 0), mark(".", 1), numeral(0, 2))
	has(t, "1\"a\"2", numeral(1, 0), quoted("a", 1), numeral(2, 4))
	has(t, "9223372036854775807", numeral(1<<63-1, 0))
	has(t, "-9223372036854775807", mark("-", 0), numeral(1<<63-1, 1))
	for _, s := range []string{"9223372036854775808", "9223372036854775809", "9999999999999999999", "10000000000000000000", "18446744073709551615", "18446744073709551616", "18446744073709551617", "1" + strings.Repeat("0", 999), strings.Repeat("9", 60000)} {
		fails(t, s, api.ErrOver, 0)
		fails(t, "- "+s+".", api.ErrOver, 2)
		fails(t, "(0, "+s+") #", api.ErrOver, 4)
	}
}

// P8.1: what can not stand right behind a number, or behind a first digit that is 0.
func TestBehindNumbers(t *testing.T) {
	for _, b := range []string{"a", "z", "A", "Z", "_", "x1", "e5"} {
		for _, n := range []string{"0", "1", "42", "9223372036854775807", "9223372036854775808", strings.Repeat("9", 500)} {
			fails(t, n+b, api.ErrForm, len(n))
			fails(t, "("+n+b+"#", api.ErrForm, len(n)+1)
		}
	}
	for _, s := range []string{"00", "01", "09", "007", "00a", "0123456789", "09223372036854775808"} {
		fails(t, s, api.ErrForm, 1)
		fails(t, "a "+s, api.ErrForm, 3)
	}
	for _, b := range []string{"\x80", "#", "\x00", "@", "[", "`", "\x7f"} {
		fails(t, "0"+b, api.ErrForm, 1)
		fails(t, "12"+b, api.ErrForm, 2)
		fails(t, "9223372036854775808"+b, api.ErrOver, 0)
	}
	has(t, "0.a", numeral(0, 0), mark(".", 1), word("a", 2))
	has(t, "0/**/a", numeral(0, 0), word("a", 5))
	has(t, "1:2", numeral(1, 0), mark(":", 1), numeral(2, 2))
	has(t, "1/2", numeral(1, 0), mark("/", 1), numeral(2, 2))
}

// P8.1: texts, their four escapes, and bytes that stand for themselves.
func TestTexts(t *testing.T) {
	has(t, `""`, quoted("", 0))
	has(t, `"a"`, quoted("a", 0))
	has(t, `""""`, quoted("", 0), quoted("", 2))
	has(t, `"\""`, quoted(`"`, 0))
	has(t, `"\\"`, quoted(`\`, 0))
	has(t, `"\n"`, quoted("\n", 0))
	has(t, `"\t"`, quoted("\t", 0))
	has(t, `"\"\\\n\t"`, quoted("\"\\\n\t", 0))
	has(t, `"\\n"`, quoted(`\n`, 0))
	has(t, `"\\""a"`, quoted(`\`, 0), quoted("a", 4))
	has(t, `"a // b /* c */ .decl 007"`, quoted("a // b /* c */ .decl 007", 0))
	has(t, `x"y"z`, word("x", 0), quoted("y", 1), word("z", 4))
	var all []byte
	for b := range 256 {
		if b != '"' && b != '\\' && b != '\n' {
			all = append(all, byte(b))
			has(t, "\""+string([]byte{byte(b)})+"\"", quoted(string([]byte{byte(b)}), 0))
		}
	}
	has(t, "\""+string(all)+"\"", quoted(string(all), 0))
}

// P8.1: texts that do not end, a byte 10 in one, and a `\` behind which none of the four stands.
func TestWrongTexts(t *testing.T) {
	fails(t, `"`, api.ErrForm, 0)
	fails(t, `"a`, api.ErrForm, 0)
	fails(t, `a "b`, api.ErrForm, 2)
	fails(t, `"a""`, api.ErrForm, 3)
	fails(t, `"\"`, api.ErrForm, 0)
	fails(t, `"\\\"`, api.ErrForm, 0)
	fails(t, `"\n\t`, api.ErrForm, 0)
	fails(t, `"\`, api.ErrForm, 1)
	fails(t, `"ab\`, api.ErrForm, 3)
	fails(t, `"\\\`, api.ErrForm, 3)
	fails(t, "\"\n\"", api.ErrForm, 1)
	fails(t, "\"ab\n", api.ErrForm, 3)
	fails(t, "\"\r\n\"", api.ErrForm, 2)
	fails(t, "\"a\nb\\c\"", api.ErrForm, 2)
	fails(t, "\"a\\c\n\"", api.ErrForm, 2)
	fails(t, "\"a\\\n\"", api.ErrForm, 2)
	for b := range 256 {
		if !strings.Contains(`"\nt`, string([]byte{byte(b)})) {
			fails(t, "\"ab\\"+string([]byte{byte(b)})+"\"", api.ErrForm, 3)
			fails(t, "\"\\t\\"+string([]byte{byte(b)}), api.ErrForm, 3)
		}
	}
}

// allSigns: each sign of the document.
func allSigns() []string {
	return strings.Fields(".decl .type .comp .init :- <: <= >= != ( ) { } , . : | ! = < > + - * / % $")
}

// P8.1: each sign, alone and between other tokens.
func TestSigns(t *testing.T) {
	if len(allSigns()) != 27 {
		t.Fatal(len(allSigns()))
	}
	for _, s := range allSigns() {
		has(t, s, mark(s, 0))
		has(t, s+" ", mark(s, 0))
		has(t, "a "+s+" 1", word("a", 0), mark(s, 2), numeral(1, len(s)+3))
		has(t, s+"\"\"", mark(s, 0), quoted("", len(s)))
		has(t, s+" "+s, mark(s, 0), mark(s, len(s)+1))
	}
}

// P8.1: signs of two bytes beside those of one: the longest is taken.
func TestLongestSigns(t *testing.T) {
	for s, want := range map[string]string{
		"<:-": "<: -", "<:=": "<: =", "<=:": "<= :", "<==": "<= =", ">==": ">= =", "!==": "!= =", "!!=": "! !=",
		"::-": ": :-", ":--": ":- -", ":=": ": =", "=:-": "= :-", "=<": "= <", "=>": "= >", "<>": "< >", "<<:": "< <:", "<<=": "< <=",
		">:": "> :", ">>=": "> >=", "=!": "= !", "=!=": "= !=", "-:": "- :", "**": "* *", "*/": "* /", "+-": "+ -", "--": "- -",
		"):-": ") :-", ",!": ", !", "|:": "| :", "$(": "$ (", "..": ". .", "...": ". . .", "!<": "! <", "%=": "% =", "/=": "/ =", "/ /": "/ /", "/ *": "/ *",
		"<:.decl": "<: .decl", "..decl": ". .decl", ").type": ") .type",
	} {
		got, fault := Tokens(s)
		var texts []string
		for _, tok := range got {
			if tok.Kind != api.TokSign {
				t.Error(s, tok)
			}
			texts = append(texts, tok.Text)
		}
		if fault != (api.Fault{}) || strings.Join(texts, " ") != want {
			t.Errorf("%q: %q %v", s, texts, fault)
		}
	}
}

// P8.1: `.decl` and its like are signs where no letter, digit or `_` stands behind them, and else a point and a word.
func TestHeads(t *testing.T) {
	for _, s := range []string{".decl", ".type", ".comp", ".init"} {
		for _, b := range []string{"a", "z", "A", "Z", "0", "9", "_", "s.b"} {
			has(t, s+b, mark(".", 0), word(s[1:]+b, 1))
		}
		has(t, s+".", mark(s, 0), mark(".", 5))
		has(t, s+".a", mark(s, 0), mark(".", 5), word("a", 6))
		has(t, s+s, mark(s, 0), mark(s, 5))
		has(t, s+" a", mark(s, 0), word("a", 6))
		has(t, s+"/**/a", mark(s, 0), word("a", 9))
		has(t, s+"(", mark(s, 0), mark("(", 5))
		has(t, s+"//", mark(s, 0))
		has(t, "a"+s, word("a"+s, 0))
		has(t, "a"+s+"x", word("a"+s+"x", 0))
		has(t, "a "+s, word("a", 0), mark(s, 2))
		has(t, "1"+s, numeral(1, 0), mark(s, 1))
		has(t, "."+s, mark(".", 0), mark(s, 1))
		has(t, s[:4], mark(".", 0), word(s[1:4], 1))
		has(t, ". "+s[1:], mark(".", 0), word(s[1:], 2))
		has(t, strings.ToUpper(s), mark(".", 0), word(strings.ToUpper(s[1:]), 1))
		fails(t, s+"\x80", api.ErrForm, 5)
	}
	has(t, ".input", mark(".", 0), word("input", 1))
	has(t, ".output", mark(".", 0), word("output", 1))
}

// P8.1: the four blanks and both comments stand between tokens.
func TestGaps(t *testing.T) {
	for _, gap := range gaps() {
		behind := len(gap) + 1
		has(t, "a"+gap+"b", word("a", 0), word("b", behind))
		has(t, gap+"b", word("b", behind-1))
		has(t, "a"+gap, word("a", 0))
		has(t, "<"+gap+"=", mark("<", 0), mark("=", behind))
		has(t, "0"+gap+"0", numeral(0, 0), numeral(0, behind))
	}
	has(t, "a// b", word("a", 0))
	has(t, "a//", word("a", 0))
	has(t, "a// b\rc", word("a", 0))
	has(t, "a// b\nc//d\n", word("a", 0), word("c", 6))
	has(t, "///\na", word("a", 4))
	has(t, "// /*\na", word("a", 6))
	has(t, "//*\na*/", word("a", 4), mark("*", 5), mark("/", 6))
	has(t, "/*//*/a", word("a", 6))
	has(t, "/*/a*/b", word("b", 6))
	has(t, "/*/**/a", word("a", 6))
	has(t, "/***/a", word("a", 5))
	has(t, "/****/a", word("a", 6))
	has(t, "/**/*/", mark("*", 4), mark("/", 5))
	has(t, "/* \" */a", word("a", 7))
	has(t, "/*\x00\xff\n#*/a", word("a", 8))
	has(t, "//\x00\xff#\"\na", word("a", 7))
	has(t, "*/**/a", mark("*", 0), word("a", 5))
}

// P8.1: comments that do not end.
func TestOpenComments(t *testing.T) {
	for _, s := range []string{"/*", "/*/", "/* a", "/**", "/* *", "/* * /", "/*\n", "/* // \n", "/*/ /*", "/*\"*\"/", "/* \x00", "/*\xff"} {
		fails(t, s, api.ErrForm, 0)
		fails(t, " "+s, api.ErrForm, 1)
		fails(t, "a.b"+s, api.ErrForm, 3)
		fails(t, "/**/"+s, api.ErrForm, 4)
		fails(t, "//\n1"+s, api.ErrForm, 4)
	}
}

// P8.1: bytes with which no token begins, and which are no gaps.
func TestWrongBytes(t *testing.T) {
	begins := "_\" \t\n\r(){},.:|!=<>+-*/%$"
	for b := range 256 {
		s := string([]byte{byte(b)})
		letter := b >= 'a' && b <= 'z' || b >= 'A' && b <= 'Z'
		if letter || b >= '0' && b <= '9' || strings.Contains(begins, s) {
			continue
		}
		fails(t, s, api.ErrForm, 0)
		fails(t, " "+s+" ", api.ErrForm, 1)
		fails(t, "a.b"+s, api.ErrForm, 3)
		fails(t, "a."+s, api.ErrForm, 2)
		fails(t, "p(1)."+s+"q(2).", api.ErrForm, 5)
		fails(t, ":"+s+"-", api.ErrForm, 1)
		fails(t, ".decl"+s, api.ErrForm, 5)
		fails(t, "\"\""+s, api.ErrForm, 2)
	}
	for _, s := range []string{"é", "−", "\u00a0", "\u2028", "\ufeff", "ａ", "１"} {
		fails(t, "a "+s, api.ErrForm, 2)
	}
}

// P8.1: of several faults the first one is told.
func TestFirstFault(t *testing.T) {
	long := strings.Repeat("a", api.MaxName+1)
	over := "9223372036854775808"
	faults := []struct {
		s   string
		why api.Errno
		at  int
	}{
		{"#", api.ErrForm, 0},
		{"\x00", api.ErrForm, 0},
		{"\xff", api.ErrForm, 0},
		{`"a\b"`, api.ErrForm, 2},
		{"\"a\n", api.ErrForm, 2},
		{"01", api.ErrForm, 1},
		{"12x", api.ErrForm, 2},
		{over, api.ErrOver, 0},
		{over + "x", api.ErrForm, 19},
		{long, api.ErrLong, 0},
	}
	for _, first := range faults {
		fails(t, first.s, first.why, first.at)
		fails(t, "a(\n"+first.s, first.why, first.at+3)
		for _, second := range faults {
			fails(t, first.s+" "+second.s, first.why, first.at)
		}
		fails(t, first.s+" /*", first.why, first.at)
		fails(t, first.s+" \"", first.why, first.at)
		fails(t, "/* "+first.s, api.ErrForm, 0)
		has(t, "// "+strings.ReplaceAll(first.s, "\n", ""))
		has(t, "/* "+first.s+" */")
	}
}

// P8.2: words.
func TestWord(t *testing.T) {
	most := strings.Repeat("w", api.MaxName)
	for _, s := range []string{"a", "Z", "_", "__1", "a_1", "decl", "A9z", most, "_" + most[1:]} {
		if !Word(s) || !Name(s) {
			t.Errorf("%q: %v %v", s, Word(s), Name(s))
		}
	}
	for _, s := range []string{"a.b", "_._", "a.b.c", "a1.b2", "a.decl", most[2:] + ".b", "a." + most[2:]} {
		if Word(s) || !Name(s) {
			t.Errorf("%q: %v %v", s, Word(s), Name(s))
		}
	}
	for _, s := range []string{"", " ", "a ", " a", "a b", "1", "1a", "0", ".", ".a", "a.", "a..b", "a.1", "a .b", "a. b", ".decl", "a.b.", "a-b", "$a", "a(", "\"a\"", "a//", "/**/a", "a\n", "a\x00", "\x00", "é", "aé", "a.é", "\xff", most + "w", "_" + most, most + ".b", most[1:] + ".b", strings.Repeat("a", 1<<20)} {
		if Word(s) || Name(s) {
			t.Errorf("%.90q: %v %v", s, Word(s), Name(s))
		}
	}
}

// P8.2: Name is whether Tokens has that text as its one TokWord, and Word whether that has no point.
func TestNameIsOneTokWord(t *testing.T) {
	for s := range texts(3) {
		toks, fault := Tokens(s)
		is := fault == (api.Fault{}) && slices.Equal(toks, []api.Tok{word(s, 0)})
		if Name(s) != is {
			t.Fatalf("Name(%q): %v", s, Name(s))
		}
		if Word(s) != (is && !strings.Contains(s, ".")) {
			t.Fatalf("Word(%q): %v", s, Word(s))
		}
	}
}

// R4: who writes into what was answered turns nothing else.
func TestAnswersAreTheCallers(t *testing.T) {
	s := "a.b(1, \"x\\n\"). .decl c"
	first, _ := Tokens(s)
	second, _ := Tokens(s)
	kept := slices.Clone(second)
	for i := range first {
		first[i] = api.Tok{Kind: 9, Text: "over", N: 9, At: 9}
	}
	first = append(first[:1], first...)
	if !slices.Equal(second, kept) {
		t.Error(first, second)
	}
	has(t, s, kept...)
	if s != "a.b(1, \"x\\n\"). .decl c" {
		t.Error(s)
	}
}

// R3: what was asked before turns nothing.
func TestSameCallsSameAnswers(t *testing.T) {
	has(t, "a 1", word("a", 0), numeral(1, 2))
	fails(t, "a /*", api.ErrForm, 2)
	fails(t, "\"", api.ErrForm, 0)
	has(t, "a 1", word("a", 0), numeral(1, 2))
	has(t, "")
	fails(t, "a /*", api.ErrForm, 2)
}
