package tree

import (
	"strings"

	"wireglass/api"
	"wireglass/lex"
)

const furtherIn = 2 // how many blanks the lines of a block are further in than that of its brace

// Print returns the text of descriptions.
func Print(l []api.Proto) (string, api.Errno) {
	if e := Validate(l); e != api.OK {
		return "", e
	}
	var p printer
	for _, x := range l {
		p.line("proto " + x.Name + " {")
		p.block(x.Items)
		p.line("}")
	}
	return inBounds(p.out.String())
}

// PrintExpr returns the text of an expression.
func PrintExpr(x api.Expr) (string, api.Errno) {
	if e := ValidateExpr(x); e != api.OK {
		return "", e
	}
	return inBounds(written(x))
}

// inBounds returns a text, if a source may be as long.
func inBounds(s string) (string, api.Errno) {
	if len(s) > api.MaxSource {
		return "", api.ErrLarge
	}
	return s, api.OK
}

// printer writes lines.
type printer struct {
	out strings.Builder
	in  int // how many blanks a line begins with
}

func (p *printer) line(s string) {
	p.out.WriteString(strings.Repeat(" ", p.in))
	p.out.WriteString(s)
	p.out.WriteByte('\n')
}

// block writes the items of a block.
func (p *printer) block(l []api.Item) {
	p.in += furtherIn
	for _, i := range l {
		p.item(i)
	}
	p.in -= furtherIn
}

func (p *printer) item(i api.Item) {
	switch i.Op {
	case api.IIf:
		p.choice(i)
	case api.IChoose:
		p.choose(i)
	case api.IRepeat, api.IUntil, api.IWithin, api.ISub:
		p.line(head(i) + " {")
		p.block(i.B[0])
		p.line("}")
	default:
		p.line(head(i) + ";")
	}
}

// choice writes an if.
func (p *printer) choice(i api.Item) {
	p.line(head(i) + " {")
	for at, block := range i.B {
		if at > 0 {
			p.line("} else {")
		}
		p.block(block)
	}
	p.line("}")
}

func (p *printer) choose(i api.Item) {
	p.line(head(i) + " {")
	p.in += furtherIn
	for at, block := range i.B {
		if at < len(i.C) {
			p.line("case " + lex.Number(i.C[at]) + ": {")
		} else {
			p.line("default: {")
		}
		p.block(block)
		p.line("}")
	}
	p.in -= furtherIn
	p.line("}")
}

// head returns what is written of an item beside its blocks.
func head(i api.Item) string {
	switch i.Op {
	case api.IField:
		return i.S + ": " + typeOf(i) + unitOf(i)
	case api.ILet:
		return "let " + i.S + " = " + written(i.X[0])
	case api.ICheck:
		return "check " + written(i.X[0]) + ": " + quoted(i.S) + " " + lex.Number(i.N)
	case api.IIf:
		return "if " + inner(i.X[0])
	case api.IChoose:
		return "choose " + inner(i.X[0])
	case api.IRepeat:
		return "repeat " + inner(i.X[0])
	case api.IUntil:
		return "until"
	case api.IWithin:
		return "within " + inner(i.X[0])
	case api.ISub:
		return "sub " + i.S
	case api.IGoes:
		return "goes " + i.S
	case api.INext:
		return "next " + i.S + inner(i.X[0])
	case api.ITry:
		return "try " + strings.Join(i.P, ", ")
	}
	return "stop " + written(i.X[0])
}

// typeOf returns the text of a field's type.
func typeOf(f api.Item) string {
	if isSized(f.T) {
		return f.T + inner(f.X[0])
	}
	s := f.T + lex.Number(f.N)
	if f.Low {
		return "low " + s
	}
	return s
}

// unitOf returns what is written of a field's unit behind its type.
func unitOf(f api.Item) string {
	if f.U == "" {
		return ""
	}
	return " " + quoted(f.U)
}

// quoted returns a note or unit between quotes. It is never as long as Quote refuses.
func quoted(s string) string {
	out, _ := lex.Quote(s)
	return out
}

// inner returns the text of an expression in parentheses.
func inner(x api.Expr) string {
	return "(" + written(x) + ")"
}

// written returns the text of an expression.
func written(x api.Expr) string {
	switch x.Op {
	case api.XNum:
		return lex.Number(x.N)
	case api.XPref:
		return "@" + x.S
	case api.XUn:
		return x.S + operand(x.L[0])
	case api.XBin:
		return operand(x.L[0]) + " " + x.S + " " + operand(x.L[1])
	case api.XLeft:
		return "left"
	case api.XHere:
		return "here"
	case api.XCond:
		return operand(x.L[0]) + " ? " + operand(x.L[1]) + " : " + operand(x.L[2])
	}
	return x.S
}

// operand returns the text of an operand: in parentheses, if it would be grouped otherwise without them.
func operand(x api.Expr) string {
	if x.Op == api.XBin || x.Op == api.XCond {
		return inner(x)
	}
	return written(x)
}
