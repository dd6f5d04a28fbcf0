package parse

import (
	"counterpane/a1"
	"counterpane/api"
	"counterpane/fixnum"
	"counterpane/lex"
	"counterpane/value"
)

// Kinds of words, as lex numbers them.
const (
	wordNumber    = 1
	wordText      = 2
	wordReference = 3
	wordName      = 4
	wordError     = 5
	wordSign      = 6
	wordEnd       = 7
)

// weakest is the strength of the operators that bind the weakest.
const weakest = 1

// parser goes through words, of which the last one is the end. Where a method says false, they are no formula, and nothing more is read.
type parser struct {
	words []lex.Word
	at    int
}

func (p *parser) word() lex.Word {
	return p.words[p.at]
}

// sign is the sign that is next, or empty, so that a text such as "+" is not taken for one.
func (p *parser) sign() string {
	if p.word().Kind != wordSign {
		return ""
	}
	return p.word().Text
}

// take passes over the sign if it is next.
func (p *parser) take(sign string) bool {
	if p.sign() != sign {
		return false
	}
	p.at++
	return true
}

// tree reads a tree whose operators outside of brackets bind at least so strongly.
func (p *parser) tree(least int) (api.Expr, bool) {
	left, ok := p.ahead()
	for ok && strength(p.sign()) >= least {
		operator := p.sign()
		p.at++
		var right api.Expr
		// The right side leaves what binds the same to this loop, and so to the left.
		right, ok = p.tree(strength(operator) + 1)
		left = api.Expr{Kind: api.XBin, Text: operator, Kids: []api.Expr{left, right}}
	}
	return left, ok
}

// ahead reads a first thing, with any - ahead of it.
func (p *parser) ahead() (api.Expr, bool) {
	if !p.take("-") {
		return p.first()
	}
	kid, ok := p.ahead()
	return api.Expr{Kind: api.XNeg, Kids: []api.Expr{kid}}, ok
}

func (p *parser) first() (api.Expr, bool) {
	if p.take("(") {
		return p.bracketed()
	}
	word := p.word()
	p.at++
	switch word.Kind {
	case wordNumber:
		n, ok := fixnum.Parse(word.Text)
		return api.Expr{Kind: api.XNum, Num: n}, ok
	case wordText:
		return api.Expr{Kind: api.XText, Text: word.Text}, true
	case wordError:
		return api.Expr{Kind: api.XErr, Err: errorOf(word.Text)}, true
	case wordReference:
		return p.reference(word.Text)
	case wordName:
		return p.named(word.Text)
	}
	return api.Expr{}, false
}

// bracketed reads what is behind a (.
func (p *parser) bracketed() (api.Expr, bool) {
	e, ok := p.tree(weakest)
	return e, ok && p.take(")")
}

func errorOf(name string) int {
	for err := api.ERef; err < api.ENone; err++ {
		if value.Name(err) == name {
			return err
		}
	}
	return api.ENone
}

// reference reads a range too, if a : is behind the reference that was read.
func (p *parser) reference(text string) (api.Expr, bool) {
	begin, ok := a1.Parse(text)
	if !ok || !p.take(":") {
		return api.Expr{Kind: api.XRef, Refs: []api.Ref{begin}}, ok
	}
	if p.word().Kind != wordReference {
		return api.Expr{}, false
	}
	end, ok := a1.Parse(p.word().Text)
	p.at++
	return api.Expr{Kind: api.XRange, Refs: []api.Ref{begin, end}}, ok && end.Sheet == ""
}

// named reads a truth or a call, of which the name was read.
func (p *parser) named(name string) (api.Expr, bool) {
	if isTruth(name) {
		return api.Expr{Kind: api.XBool, Bool: name == "TRUE"}, true
	}
	if !mayName(name) || !p.take("(") {
		return api.Expr{}, false
	}
	kids, ok := p.arguments()
	return api.Expr{Kind: api.XCall, Text: name, Kids: kids}, ok
}

// arguments reads a call's trees and the ) behind them.
func (p *parser) arguments() ([]api.Expr, bool) {
	if p.take(")") {
		return nil, true
	}
	var kids []api.Expr
	for len(kids) < api.MaxArgs {
		kid, ok := p.tree(weakest)
		if !ok {
			return nil, false
		}
		kids = append(kids, kid)
		if !p.take(",") {
			return kids, p.take(")")
		}
	}
	return nil, false
}

// strength is how strongly an operator of two sides binds; 0: it is none.
func strength(operator string) int {
	switch operator {
	case "=", "<>", "<", "<=", ">", ">=":
		return weakest
	case "&":
		return weakest + 1
	case "+", "-":
		return weakest + 2
	case "*", "/":
		return weakest + 3
	}
	return 0
}
