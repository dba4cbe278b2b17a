// Package script is layer 30: a world driven by a script.
package script

import (
	"strings"

	"tidewrack/api"
	"tidewrack/batch"
	"tidewrack/lex"
)

// mostNumber is how far from 0 a number of a line is, at most.
const mostNumber = 1_000_000

// form is a word and its arguments: n the node, i the name, t the text, d a number.
type form struct{ word, args string }

var forms = [...]form{
	{"rules", "t"}, {"user", "i"}, {"room", "d"}, {"spoke", "id"},
	{"edit", "nit"}, {"delete", "ni"}, {"purge", "ni"}, {"sync", "n"}, {"compact", "n"}, {"pull", "n"}, {"push", "n"},
	{"tick", "d"}, {"deliver", "d"}, {"drop", "d"}, {"double", "d"}, {"crash", "ndd"}, {"fuse", "nddd"}, {"start", "n"},
	{"carry", ""}, {"settle", "d"}, {"show", "n"}, {"letters", ""}, {"judge", ""},
}

// Words returns all words.
func Words() []string {
	var out []string
	for _, f := range forms {
		out = append(out, f.word)
	}
	return out
}

// argsOf returns the arguments of a word.
func argsOf(word string) (string, bool) {
	for _, f := range forms {
		if f.word == word {
			return f.args, true
		}
	}
	return "", false
}

// leads reports whether the word is one of those that come first.
func leads(word string) bool {
	switch word {
	case "rules", "user", "room", "spoke":
		return true
	}
	return false
}

// May reports whether a line is valid.
func May(l api.Line) bool {
	args, ok := argsOf(l.Word)
	if !ok || len(l.Numbers) != strings.Count(args, "d") {
		return false
	}
	used := api.Line{}
	for _, c := range args {
		switch c {
		case 'n':
			used.Node = l.Node
			ok = ok && l.Node >= 1 && l.Node <= api.MaxPeers
		case 'i':
			used.Id = l.Id
			ok = ok && batch.MayName(l.Id)
		case 't':
			used.Text = l.Text
			ok = ok && lex.May(api.Token{Kind: api.TokText, Text: l.Text})
		}
	}
	for _, n := range l.Numbers {
		ok = ok && n >= -mostNumber && n <= mostNumber
	}
	return ok && l.Node == used.Node && l.Id == used.Id && l.Text == used.Text
}

// Print returns the texts of lines.
func Print(l ...api.Line) (string, api.Errno) {
	var out strings.Builder
	for _, x := range l {
		if !May(x) {
			return "", api.ErrArg
		}
		s, e := lex.Print(tokens(x)...)
		if e != api.OK {
			return "", api.ErrArg
		}
		out.WriteString(s + "\n")
	}
	return out.String(), api.OK
}

// tokens are those of a valid line.
func tokens(l api.Line) []api.Token {
	out := []api.Token{{Kind: api.TokWord, Text: l.Word}}
	numbers := l.Numbers
	args, _ := argsOf(l.Word)
	for _, c := range args {
		var t api.Token
		switch c {
		case 'n':
			t = api.Token{Kind: api.TokNumber, Num: int64(l.Node)}
		case 'i':
			t = api.Token{Kind: api.TokWord, Text: l.Id}
			if !lex.May(t) {
				t.Kind = api.TokText
			}
		case 't':
			t = api.Token{Kind: api.TokText, Text: l.Text}
		case 'd':
			t = api.Token{Kind: api.TokNumber, Num: numbers[0]}
			numbers = numbers[1:]
		}
		out = append(out, t)
	}
	return out
}

// Parse returns the lines of a script, or the number of the line at fault.
func Parse(s string) ([]api.Line, int, api.Errno) {
	if len(s) > api.MaxScript {
		return nil, 0, api.ErrLong
	}
	var out []api.Line
	for i, text := range strings.Split(s, "\n") {
		l, _, e := lex.All(text)
		if len(l) == 0 && e == api.OK {
			continue
		}
		x, ok := line(l)
		if e != api.OK || !ok {
			return nil, i + 1, api.ErrForm
		}
		out = append(out, x)
	}
	if len(out) > api.MaxLines {
		return nil, 0, api.ErrLong
	}
	return out, 0, api.OK
}

// line is what tokens say, if that is a valid line.
func line(l []api.Token) (api.Line, bool) {
	if len(l) == 0 || l[0].Kind != api.TokWord {
		return api.Line{}, false
	}
	out := api.Line{Word: l[0].Text}
	args, ok := argsOf(out.Word)
	if !ok || len(l) != len(args)+1 {
		return api.Line{}, false
	}
	for i, c := range args {
		if !setter(&out, c)(l[i+1]) {
			return api.Line{}, false
		}
	}
	return out, May(out)
}

// setter sets the field of an argument by a token, if that is of its kind.
func setter(l *api.Line, arg rune) func(api.Token) bool {
	switch arg {
	case 'n':
		return func(t api.Token) bool {
			if t.Num < 1 || t.Num > api.MaxPeers {
				return false
			}
			l.Node = int(t.Num)
			return t.Kind == api.TokNumber
		}
	case 'i':
		return func(t api.Token) bool {
			l.Id = t.Text
			return t.Kind == api.TokWord || t.Kind == api.TokText
		}
	case 't':
		return func(t api.Token) bool {
			l.Text = t.Text
			return t.Kind == api.TokText
		}
	}
	return func(t api.Token) bool {
		l.Numbers = append(l.Numbers, t.Num)
		return t.Kind == api.TokNumber
	}
}
