package rule

import (
	"strings"

	"tidewrack/api"
	"tidewrack/lex"
)

// Print returns the text of the rules.
func Print(p api.Program) (string, api.Errno) {
	if !mayClauses(p) {
		return "", api.ErrArg
	}
	var out printer
	for _, c := range p.Clauses {
		out.clause(c)
	}
	s, e := lex.Print(out...)
	if e != api.OK || len(s) > api.MaxRules {
		return "", api.ErrArg
	}
	return s, api.OK
}

// printer has the tokens of rules that were checked.
type printer []api.Token

func (p *printer) word(s string) { *p = append(*p, api.Token{Kind: api.TokWord, Text: s}) }

func (p *printer) mark(s string) { *p = append(*p, api.Token{Kind: api.TokMark, Text: s}) }

func (p *printer) clause(c api.Clause) {
	if c.When == 1 {
		p.word("when")
		p.cond(c.Cond)
		p.mark("{")
	}
	for _, a := range c.Acts {
		p.act(a)
	}
	if c.When == 1 {
		p.mark("}")
	}
}

func (p *printer) act(a api.Act) {
	switch a.Kind {
	case api.ActChannel:
		p.word("channel")
		p.term(a.A)
	case api.ActGrant:
		p.word("grant")
		p.term(a.A)
		p.term(a.B)
	case api.ActReject:
		p.word("reject")
	}
	p.mark(";")
}

func (p *printer) cond(c api.Cond) {
	switch c.Kind {
	case api.CondOr:
		p.kids(c, "or")
	case api.CondAnd:
		p.kids(c, "and")
	case api.CondNot:
		p.word("not")
		p.kids(c, "")
	case api.CondEq:
		p.compared(c, "=")
	case api.CondNe:
		p.compared(c, "!=")
	case api.CondLt:
		p.compared(c, "<")
	case api.CondHas:
		p.word("has")
		p.term(c.A)
	case api.CondDel:
		p.word("deleted")
	}
}

func (p *printer) compared(c api.Cond, mark string) {
	p.term(c.A)
	p.mark(mark)
	p.term(c.B)
}

func (p *printer) kids(c api.Cond, between string) {
	for i, kid := range c.Kids {
		if i > 0 {
			p.word(between)
		}
		if enclosed(kid.Kind, c.Kind) {
			p.mark("(")
			p.cond(kid)
			p.mark(")")
		} else {
			p.cond(kid)
		}
	}
}

// enclosed reports whether a kid of that kind stands between parentheses.
func enclosed(kid, parent int) bool {
	switch kid {
	case api.CondOr:
		return true
	case api.CondAnd:
		return parent != api.CondOr
	}
	return false
}

func (p *printer) term(t api.Term) {
	switch t.Kind {
	case api.TermId:
		p.word("id")
	case api.TermField:
		p.word(strings.Repeat(oldMark, t.Old) + t.Text)
	case api.TermValue:
		p.value(t.Value)
	}
}

func (p *printer) value(v api.Value) {
	switch v.Kind {
	case api.Null:
		p.word("null")
	case api.False:
		p.word("false")
	case api.True:
		p.word("true")
	case api.Number:
		*p = append(*p, api.Token{Kind: api.TokNumber, Num: v.Num})
	case api.Text:
		*p = append(*p, api.Token{Kind: api.TokText, Text: v.Text})
	}
}
