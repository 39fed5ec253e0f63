package lex

import (
	"strings"

	"vestry/api"
	"vestry/num"
)

// heads are the signs that are no signs where a word goes on behind them.
var heads = [4]string{".decl", ".type", ".comp", ".init"}

// signs are the other ones. Those of two bytes come first, as the first one that fits is taken.
var signs = [23]string{
	":-", "<:", "<=", ">=", "!=",
	"(", ")", "{", "}", ",", ".", ":", "|", "!", "=", "<", ">", "+", "-", "*", "/", "%", "$",
}

// token is the token that begins at a byte, and the place behind it.
func token(s string, at int) (api.Tok, int, api.Fault) {
	switch {
	case beginsWord(s[at]):
		return name(s, at)
	case isDigit(s[at]):
		return number(s, at)
	case s[at] == '"':
		return text(s, at)
	}
	return sign(s, at)
}

func name(s string, at int) (api.Tok, int, api.Fault) {
	end := nameEnd(s, at)
	if end-at > api.MaxName {
		return wrong(api.ErrLong, at)
	}
	// A copy: a piece of s would keep all of s.
	return api.Tok{Kind: api.TokWord, Text: strings.Clone(s[at:end]), At: at}, end, api.Fault{}
}

// nameEnd is the place behind the words, with points between, that begin at a byte.
func nameEnd(s string, at int) int {
next:
	if at < len(s) && inWord(s[at]) {
		at++
		goto next
	}
	// A point belongs to the name only where a word begins behind it.
	if at+1 < len(s) && s[at] == '.' && beginsWord(s[at+1]) {
		at += 2
		goto next
	}
	return at
}

func number(s string, at int) (api.Tok, int, api.Fault) {
	end := digitsEnd(s, at)
	// What can not stand behind a number is told ahead of the number's size.
	if end < len(s) && inWord(s[end]) {
		return wrong(api.ErrForm, end)
	}
	n, e := num.Parse(s[at:end])
	if e != api.OK {
		return wrong(e, at)
	}
	return api.Tok{Kind: api.TokNum, N: n, At: at}, end, api.Fault{}
}

// digitsEnd is the place behind a number's digits: no digit follows a 0 that is the first one.
func digitsEnd(s string, at int) int {
	if s[at] == '0' {
		return at + 1
	}
	for at < len(s) && isDigit(s[at]) {
		at++
	}
	return at
}

func text(s string, first int) (api.Tok, int, api.Fault) {
	var value []byte
	for at := first + 1; at < len(s); at++ {
		switch s[at] {
		case '"':
			return api.Tok{Kind: api.TokText, Text: string(value), At: first}, at + 1, api.Fault{}
		case '\n':
			return wrong(api.ErrForm, at)
		case '\\':
			meant, is := escaped(s[at+1:])
			if !is {
				return wrong(api.ErrForm, at)
			}
			value = append(value, meant)
			at++
		default:
			value = append(value, s[at])
		}
	}
	return wrong(api.ErrForm, first)
}

// escaped is the byte that is meant by a `\` ahead of this text.
func escaped(s string) (byte, bool) {
	if s == "" {
		return 0, false
	}
	switch s[0] {
	case '"', '\\':
		return s[0], true
	case 'n':
		return '\n', true
	case 't':
		return '\t', true
	}
	return 0, false
}

func sign(s string, at int) (api.Tok, int, api.Fault) {
	length := signLength(s[at:])
	if length == 0 {
		return wrong(api.ErrForm, at)
	}
	end := at + length
	return api.Tok{Kind: api.TokSign, Text: strings.Clone(s[at:end]), At: at}, end, api.Fault{}
}

// signLength is how long the sign is with which a text begins; 0, if it begins with none.
func signLength(s string) int {
	for _, head := range heads {
		rest, is := strings.CutPrefix(s, head)
		if is && (rest == "" || !inWord(rest[0])) {
			return len(head)
		}
	}
	for _, other := range signs {
		if strings.HasPrefix(s, other) {
			return len(other)
		}
	}
	return 0
}

func wrong(why api.Errno, at int) (api.Tok, int, api.Fault) {
	return api.Tok{}, 0, api.Fault{Why: why, At: at}
}

func beginsWord(b byte) bool {
	return b == '_' || 'A' <= b && b <= 'Z' || 'a' <= b && b <= 'z'
}

func inWord(b byte) bool {
	return beginsWord(b) || isDigit(b)
}

func isDigit(b byte) bool {
	return '0' <= b && b <= '9'
}
