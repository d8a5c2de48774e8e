package tree

import (
	"slices"

	"wireglass/api"
	"wireglass/lex"
)

const usualGrave = 2 // the grave of a check that is not told

// Parse returns the descriptions of a source and its number of tokens; with api.ErrSyntax, the second result is the place of the byte, or the number of the token, that is wrong.
func Parse(s string) ([]api.Proto, int, api.Errno) {
	var out []api.Proto
	n, e := read(s, func(p *parser) { out = p.protos() })
	if e != api.OK {
		return nil, n, e
	}
	if large(out) {
		return nil, 0, api.ErrLarge
	}
	return out, n, api.OK
}

// ParseExpr returns the expression of a source as Parse does descriptions.
func ParseExpr(s string) (api.Expr, int, api.Errno) {
	var out api.Expr
	n, e := read(s, func(p *parser) { out = p.expr() })
	if e != api.OK {
		return api.Expr{}, n, e
	}
	if largeExpr(out) {
		return api.Expr{}, 0, api.ErrLarge
	}
	return out, n, api.OK
}

// read lets a source be parsed, and returns its number of tokens, or an error with what the document says of it.
func read(s string, parse func(*parser)) (int, api.Errno) {
	l, n, e := lex.Lex(s)
	if e != api.OK {
		return n, e
	}
	p := parser{l: l, levels: levels()}
	if !p.gets(parse) {
		return p.at, api.ErrSyntax
	}
	return n, api.OK
}

// protos reads descriptions up to the end.
func (p *parser) protos() []api.Proto {
	var out []api.Proto
	for p.at < len(p.l) {
		p.want("proto")
		name := p.name()
		items := p.block()
		out = append(out, api.Proto{Name: name, Items: items})
	}
	return out
}

// block reads items between braces.
func (p *parser) block() []api.Item {
	p.want("{")
	var out []api.Item
	for !p.takes("}") {
		out = append(out, p.item())
	}
	return out
}

func (p *parser) item() api.Item {
	switch {
	case p.takes("let"):
		return p.let()
	case p.takes("check"):
		return p.check()
	case p.takes("stop"):
		return p.stop()
	case p.takes("if"):
		return p.choice()
	case p.takes("choose"):
		return p.choose()
	case p.takes("repeat"):
		return p.bounded(api.IRepeat)
	case p.takes("until"):
		return api.Item{Op: api.IUntil, B: p.blocks()}
	case p.takes("within"):
		return p.bounded(api.IWithin)
	case p.takes("sub"):
		return p.sub()
	case p.takes("goes"):
		return p.goes()
	case p.takes("next"):
		return p.table()
	case p.takes("try"):
		return p.try()
	}
	return p.field()
}

func (p *parser) let() api.Item {
	name := p.name()
	p.want("=")
	x := p.expr()
	p.want(";")
	return api.Item{Op: api.ILet, S: name, X: []api.Expr{x}}
}

func (p *parser) check() api.Item {
	x := p.expr()
	p.want(":")
	note := p.text()
	grave := usualGrave
	if p.next().Kind == api.KNum {
		grave = p.number(graveFits)
	}
	p.want(";")
	return api.Item{Op: api.ICheck, S: note, N: grave, X: []api.Expr{x}}
}

func (p *parser) stop() api.Item {
	x := p.expr()
	p.want(";")
	return api.Item{Op: api.IStop, X: []api.Expr{x}}
}

// choice reads what stands behind an if.
func (p *parser) choice() api.Item {
	x := p.inner()
	blocks := p.blocks()
	if p.takes("else") {
		blocks = append(blocks, p.block())
	}
	return api.Item{Op: api.IIf, X: []api.Expr{x}, B: blocks}
}

func (p *parser) choose() api.Item {
	out := api.Item{Op: api.IChoose, X: []api.Expr{p.inner()}}
	p.want("{")
	for p.takes("case") {
		n := p.number(func(n int) bool { return !slices.Contains(out.C, n) })
		out.C = append(out.C, n)
		p.want(":")
		out.B = append(out.B, p.block())
	}
	if p.takes("default") {
		p.want(":")
		out.B = append(out.B, p.block())
	}
	p.want("}")
	return out
}

// bounded reads an expression and a block.
func (p *parser) bounded(op int) api.Item {
	x := p.inner()
	return api.Item{Op: op, X: []api.Expr{x}, B: p.blocks()}
}

func (p *parser) sub() api.Item {
	name := p.name()
	return api.Item{Op: api.ISub, S: name, B: p.blocks()}
}

func (p *parser) goes() api.Item {
	name := p.name()
	p.want(";")
	return api.Item{Op: api.IGoes, S: name}
}

// table reads what stands behind a next.
func (p *parser) table() api.Item {
	name := p.name()
	x := p.inner()
	p.want(";")
	return api.Item{Op: api.INext, S: name, X: []api.Expr{x}}
}

func (p *parser) try() api.Item {
	names := []string{p.name()}
	for p.takes(",") {
		names = append(names, p.name())
	}
	p.want(";")
	return api.Item{Op: api.ITry, P: names}
}

func (p *parser) field() api.Item {
	out := api.Item{Op: api.IField, S: p.name()}
	p.want(":")
	p.kind(&out)
	if p.next().Kind == api.KStr {
		out.U = p.text()
	}
	p.want(";")
	return out
}

// kind reads the type of a field.
func (p *parser) kind(f *api.Item) {
	if p.is("bytes") || p.is("text") {
		f.T = p.next().Text
		p.at++
		f.X = []api.Expr{p.inner()}
		return
	}
	f.Low = p.takes("low")
	f.T, f.N = p.bits(f.Low)
}

// bits reads u or i and how many bits it has, as one word or two tokens.
func (p *parser) bits(low bool) (string, int) {
	t := p.next()
	if t.Kind != api.KWord || t.Text[0] != 'u' && t.Text[0] != 'i' {
		p.misfit()
	}
	fits := func(n int) bool { return bitsFit(n, low) }
	kind, digits := t.Text[:1], t.Text[1:]
	if digits == "" {
		p.at++
		return kind, p.number(fits)
	}
	n, ok := numberOf(digits)
	if !ok || !fits(n) {
		p.misfit()
	}
	p.at++
	return kind, n
}

// numberOf returns the number that the end of a word is, if it is just one.
func numberOf(s string) (int, bool) {
	l, _, e := lex.Lex(s)
	if e != api.OK || len(l) != 1 || l[0].Kind != api.KNum {
		return 0, false
	}
	return l[0].N, true
}

// blocks reads a block, as the only one.
func (p *parser) blocks() [][]api.Item {
	return [][]api.Item{p.block()}
}
