package rule

import (
	"strings"

	"tidewrack/api"
	"tidewrack/lex"
	"tidewrack/value"
)

// Parse returns the rules of a source.
func Parse(s string) (p api.Program, at int, e api.Errno) {
	l, at, e := lex.All(s)
	if e != api.OK {
		return api.Program{}, at, e
	}
	p, at, e = rules(&parser{rest: l, end: len(s)})
	if e == api.OK && !May(p) {
		return api.Program{}, 0, api.ErrLong
	}
	return p, at, e
}

// rules reads all rules; the parser gives up in whatever it has begun.
func rules(x *parser) (p api.Program, at int, e api.Errno) {
	defer func() {
		if f, ok := recover().(fault); ok {
			p, at, e = api.Program{}, f.at, api.ErrForm
		}
	}()
	for len(x.rest) > 0 {
		p.Clauses = append(p.Clauses, x.clause())
	}
	return p, 0, api.OK
}

// fault is what a parser gives up with: the place of what cannot stand there.
type fault struct{ at int }

// parser has the tokens that are still to be read, and the end of the source.
type parser struct {
	rest []api.Token
	end  int
}

func (x *parser) giveUp() {
	if len(x.rest) == 0 {
		panic(fault{x.end})
	}
	panic(fault{x.rest[0].At})
}

// next is the token to be read, which is none of any kind at the end.
func (x *parser) next() api.Token {
	if len(x.rest) == 0 {
		return api.Token{}
	}
	return x.rest[0]
}

// take passes the next token, if it is that one.
func (x *parser) take(kind int, text string) bool {
	t := x.next()
	if t.Kind != kind || t.Text != text {
		return false
	}
	x.rest = x.rest[1:]
	return true
}

func (x *parser) word(s string) bool { return x.take(api.TokWord, s) }

func (x *parser) mark(s string) bool { return x.take(api.TokMark, s) }

func (x *parser) need(ok bool) {
	if !ok {
		x.giveUp()
	}
}

func (x *parser) clause() (c api.Clause) {
	if !x.word("when") {
		c.Acts = []api.Act{x.act()}
		return c
	}
	c.When, c.Cond = 1, x.or()
	x.need(x.mark("{"))
	for !x.mark("}") {
		c.Acts = append(c.Acts, x.act())
	}
	return c
}

// begin is what begins with a word.
type begin[T any] struct {
	word string
	read func(x *parser) T
}

// chosen reads what the next word begins.
func chosen[T any](x *parser, l ...begin[T]) (v T, ok bool) {
	for _, b := range l {
		if x.word(b.word) {
			return b.read(x), true
		}
	}
	return v, false
}

func (x *parser) act() api.Act {
	table := [...]begin[api.Act]{{"channel", (*parser).channel}, {"grant", (*parser).grant}, {"reject", (*parser).reject}}
	a, ok := chosen(x, table[:]...)
	x.need(ok && x.mark(";"))
	return a
}

func (x *parser) channel() api.Act { return api.Act{Kind: api.ActChannel, A: x.term()} }

func (x *parser) grant() api.Act {
	a := x.term()
	return api.Act{Kind: api.ActGrant, A: a, B: x.term()}
}

func (x *parser) reject() api.Act { return api.Act{Kind: api.ActReject} }

func (x *parser) or() api.Cond { return x.row(api.CondOr, "or", (*parser).and) }

func (x *parser) and() api.Cond { return x.row(api.CondAnd, "and", (*parser).not) }

// row reads conditions with a word between them; a single one is itself.
func (x *parser) row(kind int, between string, read func(*parser) api.Cond) api.Cond {
	kids := []api.Cond{read(x)}
	for x.word(between) {
		kids = append(kids, read(x))
	}
	if len(kids) == 1 {
		return kids[0]
	}
	return api.Cond{Kind: kind, Kids: kids}
}

func (x *parser) not() api.Cond {
	table := [...]begin[api.Cond]{{"not", (*parser).negated}, {"deleted", (*parser).deleted}, {"has", (*parser).has}}
	if x.mark("(") {
		c := x.or()
		x.need(x.mark(")"))
		return c
	}
	if c, ok := chosen(x, table[:]...); ok {
		return c
	}
	return x.compared()
}

func (x *parser) negated() api.Cond { return api.Cond{Kind: api.CondNot, Kids: []api.Cond{x.not()}} }

func (x *parser) deleted() api.Cond { return api.Cond{Kind: api.CondDel} }

func (x *parser) has() api.Cond {
	f, ok := x.field()
	x.need(ok)
	return api.Cond{Kind: api.CondHas, A: f}
}

func (x *parser) compared() (c api.Cond) {
	c.A = x.term()
	switch {
	case x.mark("="):
		c.Kind = api.CondEq
	case x.mark("!="):
		c.Kind = api.CondNe
	case x.mark("<"):
		c.Kind = api.CondLt
	default:
		x.giveUp()
	}
	c.B = x.term()
	return c
}

func (x *parser) term() api.Term {
	table := [...]begin[api.Term]{{"null", (*parser).null}, {"false", (*parser).no}, {"true", (*parser).yes}, {"id", (*parser).id}}
	if t, ok := chosen(x, table[:]...); ok {
		return t
	}
	if t, ok := x.field(); ok {
		return t
	}
	t := x.next()
	switch t.Kind {
	case api.TokNumber:
		x.rest = x.rest[1:]
		return api.Term{Kind: api.TermValue, Value: value.Number(t.Num)}
	case api.TokText:
		x.rest = x.rest[1:]
		return api.Term{Kind: api.TermValue, Value: value.Text(t.Text)}
	}
	x.giveUp()
	return api.Term{}
}

func (x *parser) null() api.Term { return api.Term{Kind: api.TermValue} }

func (x *parser) no() api.Term {
	return api.Term{Kind: api.TermValue, Value: api.Value{Kind: api.False}}
}

func (x *parser) yes() api.Term {
	return api.Term{Kind: api.TermValue, Value: api.Value{Kind: api.True}}
}

func (x *parser) id() api.Term { return api.Term{Kind: api.TermId} }

// field reads a field, if the next token is one.
func (x *parser) field() (api.Term, bool) {
	t := x.next()
	if t.Kind != api.TokWord {
		return api.Term{}, false
	}
	path, old := strings.CutPrefix(t.Text, oldMark)
	f := api.Term{Kind: api.TermField, Text: path}
	if old {
		f.Old = 1
	} else if !fieldWord(path) {
		return api.Term{}, false
	}
	x.rest = x.rest[1:]
	return f, true
}
