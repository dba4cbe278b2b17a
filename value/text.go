package value

import (
	"strconv"
	"strings"

	"tidewrack/api"
)

// Print returns the text of v.
func Print(v api.Value) (string, api.Errno) {
	if !May(v) {
		return "", api.ErrArg
	}
	return string(appendText(nil, v)), api.OK
}

func appendText(out []byte, v api.Value) []byte {
	switch v.Kind {
	case api.False:
		return append(out, "false"...)
	case api.True:
		return append(out, "true"...)
	case api.Number:
		return strconv.AppendInt(out, v.Num, 10)
	case api.Text:
		return appendQuoted(out, v.Text)
	case api.List:
		return append(appendElements(append(out, '['), v), ']')
	case api.Object:
		return append(appendElements(append(out, '{'), v), '}')
	}
	return append(out, "null"...)
}

func appendElements(out []byte, v api.Value) []byte {
	for i, x := range v.List {
		if i > 0 {
			out = append(out, ',')
		}
		if v.Kind == api.Object {
			out = append(appendQuoted(out, v.Keys[i]), ':')
		}
		out = appendText(out, x)
	}
	return out
}

func appendQuoted(out []byte, s string) []byte {
	out = append(out, '"')
	for i := range len(s) {
		if s[i] == '"' || s[i] == '\\' {
			out = append(out, '\\')
		}
		out = append(out, s[i])
	}
	return append(out, '"')
}

// Parse returns the value whose text s is.
func Parse(s string) (api.Value, api.Errno) {
	if len(s) > api.MaxBytes {
		return api.Value{}, api.ErrForm
	}
	p := parser{rest: s}
	v := p.value()
	// The parser reads more than the one text of a value; what it has read is
	// that text only if it is printed again.
	if t, e := Print(v); p.bad || e != api.OK || t != s {
		return api.Value{}, api.ErrForm
	}
	return v, api.OK
}

// parser takes a value from the front of rest; bad: there is none.
type parser struct {
	rest string
	bad  bool
}

func (p *parser) value() api.Value {
	switch {
	case p.take("null"):
		return api.Value{}
	case p.take("false"):
		return api.Value{Kind: api.False}
	case p.take("true"):
		return api.Value{Kind: api.True}
	case p.take("["):
		return p.elements(api.List, "]")
	case p.take("{"):
		return p.elements(api.Object, "}")
	case strings.HasPrefix(p.rest, "\""):
		return Text(p.quoted())
	}
	return p.number()
}

// take removes s from the front, if it is there.
func (p *parser) take(s string) bool {
	rest, ok := strings.CutPrefix(p.rest, s)
	p.rest = rest
	return ok
}

func (p *parser) elements(kind int, end string) api.Value {
	v := api.Value{Kind: kind}
	if p.take(end) {
		return v
	}
list:
	for {
		if kind == api.Object {
			v.Keys = append(v.Keys, p.quoted())
			p.need(":")
			if p.bad {
				break list
			}
		}
		v.List = append(v.List, p.value())
		switch {
		case p.bad:
			break list
		case p.take(end):
			return v
		case !p.need(","):
			break list
		}
	}
	return api.Value{}
}

func (p *parser) need(s string) bool {
	ok := p.take(s)
	p.bad = p.bad || !ok
	return ok
}

func (p *parser) quoted() string {
	if !p.need("\"") {
		return ""
	}
	var out []byte
	for i := 0; i < len(p.rest); i++ {
		switch p.rest[i] {
		case '"':
			p.rest = p.rest[i+1:]
			return string(out)
		case '\\':
			i++
		}
		if i < len(p.rest) {
			out = append(out, p.rest[i])
		}
	}
	p.bad = true
	return ""
}

func (p *parser) number() api.Value {
	n := 0
	for n < len(p.rest) && (p.rest[n] == '-' || p.rest[n] >= '0' && p.rest[n] <= '9') {
		n++
	}
	x, err := strconv.ParseInt(p.rest[:n], 10, 64)
	p.bad = p.bad || err != nil
	p.rest = p.rest[n:]
	return Number(x)
}
