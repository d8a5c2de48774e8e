package tree

import (
	"slices"

	"wireglass/api"
)

const nothing = -1 // the kind of what stands behind the last token

// parser goes through tokens from the left. It is left by a panic where a token does not fit; at is then the number of this token.
type parser struct {
	l      []api.Token
	at     int
	levels [9]map[string]bool
}

// gets tells whether the parser gets through all tokens by a function.
func (p *parser) gets(through func(*parser)) (ok bool) {
	defer func() {
		ok = recover() == nil
	}()
	through(p)
	if p.at < len(p.l) {
		p.misfit()
	}
	return true
}

// misfit leaves the parser: the next token does not fit.
func (p *parser) misfit() {
	panic(p.at)
}

// next returns the next token.
func (p *parser) next() api.Token {
	if p.at < len(p.l) {
		return p.l[p.at]
	}
	return api.Token{Kind: nothing}
}

// is tells whether a word or sign stands next.
func (p *parser) is(s string) bool {
	t := p.next()
	return (t.Kind == api.KWord || t.Kind == api.KSign) && t.Text == s
}

// takes takes a word or sign, if it stands next, and tells whether it did.
func (p *parser) takes(s string) bool {
	if !p.is(s) {
		return false
	}
	p.at++
	return true
}

// want takes a word or sign that has to stand next.
func (p *parser) want(s string) {
	if !p.takes(s) {
		p.misfit()
	}
}

func (p *parser) name() string {
	t := p.next()
	if t.Kind != api.KWord || isKeyword(t.Text) {
		p.misfit()
	}
	p.at++
	return t.Text
}

// number takes a number that is as a function wants it.
func (p *parser) number(fits func(int) bool) int {
	t := p.next()
	if t.Kind != api.KNum || !fits(t.N) {
		p.misfit()
	}
	p.at++
	return t.N
}

// text takes a note or unit.
func (p *parser) text() string {
	t := p.next()
	if t.Kind != api.KStr || !textFits(t.Text) {
		p.misfit()
	}
	p.at++
	return t.Text
}

// inner reads an expression in parentheses.
func (p *parser) inner() api.Expr {
	p.want("(")
	x := p.expr()
	p.want(")")
	return x
}

// comparing is the level of operators of which just one stands in a line.
const comparing = 2

// levels returns the operators of each level, from those that bind least on.
func levels() [9]map[string]bool {
	return [9]map[string]bool{
		{"||": true},
		{"&&": true},
		comparing: {"==": true, "!=": true, "<": true, "<=": true, ">": true, ">=": true},
		{"|": true},
		{"^": true},
		{"&": true},
		{"<<": true, ">>": true},
		{"+": true, "-": true},
		{"*": true, "/": true, "%": true},
	}
}

func (p *parser) expr() api.Expr {
	x := p.level(0)
	if !p.takes("?") {
		return x
	}
	yes := p.expr()
	p.want(":")
	no := p.expr()
	return api.Expr{Op: api.XCond, L: []api.Expr{x, yes, no}}
}

// level reads operands of a level with its operators between, grouped from the left.
func (p *parser) level(n int) api.Expr {
	if n == len(p.levels) {
		return p.unary()
	}
	x := p.level(n + 1)
	for p.operator(n) {
		sign := p.next().Text
		p.at++
		y := p.level(n + 1)
		x = api.Expr{Op: api.XBin, S: sign, L: []api.Expr{x, y}}
		if n == comparing {
			break
		}
	}
	return x
}

// operator tells whether an operator of a level stands next.
func (p *parser) operator(level int) bool {
	t := p.next()
	return t.Kind == api.KSign && p.levels[level][t.Text]
}

func (p *parser) unary() api.Expr {
	t := p.next()
	switch {
	case t.Kind == api.KSign && isUnary(t.Text):
		p.at++
		x := p.unary()
		return api.Expr{Op: api.XUn, S: t.Text, L: []api.Expr{x}}
	case t.Kind == api.KNum:
		p.at++
		return api.Expr{Op: api.XNum, N: t.N}
	case p.takes("left"):
		return api.Expr{Op: api.XLeft}
	case p.takes("here"):
		return api.Expr{Op: api.XHere}
	case p.takes("@"):
		return api.Expr{Op: api.XPref, S: p.name()}
	case p.is("("):
		return p.inner()
	}
	return api.Expr{Op: api.XName, S: p.name()}
}

func isUnary(s string) bool {
	return s == "-" || s == "!" || s == "~"
}

func isBinary(s string) bool {
	for _, level := range levels() {
		if level[s] {
			return true
		}
	}
	return false
}

func isKeyword(s string) bool {
	return slices.Contains(Keywords(), s)
}
