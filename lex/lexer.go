package lex

import (
	"strconv"
	"strings"

	"tidewrack/api"
)

// lexer stands at a place in a source.
type lexer struct {
	s  string
	at int
}

// reader takes a token from where the lexer stands: what it has read, how many
// bytes that is, and whether it is one.
type reader func(x *lexer) (api.Token, int, bool)

// readers has the reader of what begins with each byte.
func readers() (table [256]reader) {
	for c := range table {
		switch {
		case begins(byte(c)):
			table[c] = (*lexer).word
		case digit(byte(c)) || c == '-':
			table[c] = (*lexer).number
		case c == '"':
			table[c] = (*lexer).text
		default:
			table[c] = (*lexer).mark
		}
	}
	return table
}

// All splits a source into its tokens.
func All(s string) (l []api.Token, at int, e api.Errno) {
	if len(s) > api.MaxRules {
		return nil, 0, api.ErrLong
	}
	table := readers()
	x := lexer{s: s}
	for x.skip(); x.at < len(s); x.skip() {
		t, n, ok := table[s[x.at]](&x)
		t.At = x.at
		if !ok || !May(t) {
			return nil, x.at, api.ErrForm
		}
		l = append(l, t)
		x.at += n
	}
	return l, 0, api.OK
}

// skip passes what is between tokens.
func (x *lexer) skip() {
blank:
	for x.at < len(x.s) {
		switch x.s[x.at] {
		case ' ', '\t', '\n', '\r':
			x.at++
		case '#':
			n := strings.IndexByte(x.s[x.at:], '\n')
			if n < 0 {
				n = len(x.s) - x.at
			}
			x.at += n
		default:
			break blank
		}
	}
}

// ends reports whether a word or a number may end n bytes from here.
func (x *lexer) ends(n int) bool {
	i := x.at + n
	return i == len(x.s) || !follows(x.s[i]) && x.s[i] != '.'
}

func (x *lexer) word() (api.Token, int, bool) {
	n := wordEnd(x.s[x.at:])
	return api.Token{Kind: api.TokWord, Text: x.s[x.at : x.at+n]}, n, x.ends(n)
}

func (x *lexer) number() (api.Token, int, bool) {
	n := 1
	for x.at+n < len(x.s) && digit(x.s[x.at+n]) {
		n++
	}
	text := x.s[x.at : x.at+n]
	num, err := strconv.ParseInt(text, 10, 64)
	return api.Token{Kind: api.TokNumber, Num: num}, n, err == nil && strconv.FormatInt(num, 10) == text && x.ends(n)
}

func (x *lexer) text() (api.Token, int, bool) {
	var out []byte
	for i := x.at + 1; i < len(x.s); i++ {
		c := x.s[i]
		switch {
		case c == '"':
			return api.Token{Kind: api.TokText, Text: string(out)}, i + 1 - x.at, true
		case c == '\\':
			i++
			if i == len(x.s) || x.s[i] != '"' && x.s[i] != '\\' {
				return api.Token{}, 0, false
			}
			c = x.s[i]
		}
		out = append(out, c)
	}
	return api.Token{}, 0, false
}

func (x *lexer) mark() (api.Token, int, bool) {
	n := 1
	if strings.HasPrefix(x.s[x.at:], "!=") {
		n = 2
	}
	return api.Token{Kind: api.TokMark, Text: x.s[x.at : x.at+n]}, n, true
}
