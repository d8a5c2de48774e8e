package tree_test

import (
	"fmt"
	"math/rand"
	"slices"
	"strconv"
	"strings"
	"testing"

	"wireglass/api"
	"wireglass/tree"
)

// source returns a source of descriptions, written in one of many ways.
func (m maker) source(l []api.Proto) string {
	var out []string
	for _, p := range l {
		out = append(out, "proto", p.Name)
		out = append(out, m.blockTokens(p.Items)...)
	}
	return m.blanks(out)
}

// blanks returns tokens with something between.
func (m maker) blanks(l []string) string {
	var out strings.Builder
	for _, s := range l {
		out.WriteString(s + m.one(" ", " ", "\n", "\t", "  ", " // a { \" comment\n"))
	}
	return out.String()
}

func (m maker) blockTokens(l []api.Item) []string {
	out := []string{"{"}
	for _, i := range l {
		out = append(out, m.itemTokens(i)...)
	}
	return append(out, "}")
}

func (m maker) itemTokens(i api.Item) []string {
	var inner, bare []string
	if len(i.X) > 0 {
		bare = m.exprTokens(i.X[0], 0)
		inner = slices.Concat([]string{"("}, m.exprTokens(i.X[0], 0), []string{")"})
	}
	var blocks [][]string
	for _, b := range i.B {
		blocks = append(blocks, m.blockTokens(b))
	}
	switch i.Op {
	case api.IField:
		return slices.Concat([]string{i.S, ":"}, m.typeTokens(i, inner), []string{";"})
	case api.ILet:
		return slices.Concat([]string{"let", i.S, "="}, bare, []string{";"})
	case api.ICheck:
		out := slices.Concat([]string{"check"}, bare, []string{":", m.quoted(i.S)})
		if i.N != 2 || m.Intn(2) == 0 {
			out = append(out, m.digits(i.N))
		}
		return append(out, ";")
	case api.IIf:
		out := slices.Concat([]string{"if"}, inner, blocks[0])
		if len(blocks) > 1 {
			out = slices.Concat(out, []string{"else"}, blocks[1])
		}
		return out
	case api.IChoose:
		out := slices.Concat([]string{"choose"}, inner, []string{"{"})
		for at, b := range blocks {
			head := []string{"default", ":"}
			if at < len(i.C) {
				head = []string{"case", m.digits(i.C[at]), ":"}
			}
			out = slices.Concat(out, head, b)
		}
		return append(out, "}")
	case api.IRepeat:
		return slices.Concat([]string{"repeat"}, inner, blocks[0])
	case api.IUntil:
		return slices.Concat([]string{"until"}, blocks[0])
	case api.IWithin:
		return slices.Concat([]string{"within"}, inner, blocks[0])
	case api.ISub:
		return slices.Concat([]string{"sub", i.S}, blocks[0])
	case api.IGoes:
		return []string{"goes", i.S, ";"}
	case api.INext:
		return slices.Concat([]string{"next", i.S}, inner, []string{";"})
	case api.ITry:
		return slices.Concat([]string{"try"}, strings.Split(strings.Join(i.P, "\x00,\x00"), "\x00"), []string{";"})
	}
	return slices.Concat([]string{"stop"}, bare, []string{";"})
}

func (m maker) typeTokens(i api.Item, size []string) []string {
	var out []string
	if i.Low {
		out = append(out, "low")
	}
	switch {
	case len(size) > 0:
		out = slices.Concat(out, []string{i.T}, size)
	case m.Intn(2) == 0:
		out = append(out, i.T, m.digits(i.N))
	default:
		out = append(out, i.T+strconv.Itoa(i.N))
	}
	if i.U != "" || m.Intn(8) == 0 {
		out = append(out, m.quoted(i.U))
	}
	return out
}

// quoted returns a text in one of the ways of chapter 4.
func (m maker) quoted(s string) string {
	out := `"`
	for i := range len(s) {
		c := s[i]
		switch {
		case c < ' ' || c > '~' || m.Intn(6) == 0:
			out += fmt.Sprintf(`\x%02x`, c)
		case c == '"' || c == '\\':
			out += `\` + string(c)
		default:
			out += string(c)
		}
	}
	return out + `"`
}

// digits returns a number in one of the ways of chapter 4.
func (m maker) digits(n int) string {
	switch m.Intn(5) {
	case 0:
		return fmt.Sprintf("0x%X", n)
	case 1:
		return fmt.Sprintf("0%d", n)
	case 2:
		if n < 1<<32 {
			return fmt.Sprintf("%d.%d.%d.%d", n>>24, n>>16&255, n>>8&255, n&255)
		}
	}
	return strconv.Itoa(n)
}

// exprTokens returns an expression with parentheses where it is weaker than something else has to be, and sometimes where they are of no use.
// A condition is of the strength 0, the operators from 1 on.
func (m maker) exprTokens(x api.Expr, least int) []string {
	out, strong := m.bareTokens(x)
	if strong < least || m.Intn(8) == 0 {
		return slices.Concat([]string{"("}, out, []string{")"})
	}
	return out
}

// bareTokens returns an expression without parentheses around, and its strength.
func (m maker) bareTokens(x api.Expr) ([]string, int) {
	const strongest = 10
	switch x.Op {
	case api.XNum:
		return []string{m.digits(x.N)}, strongest
	case api.XName:
		return []string{x.S}, strongest
	case api.XPref:
		return []string{"@", x.S}, strongest
	case api.XLeft:
		return []string{"left"}, strongest
	case api.XHere:
		return []string{"here"}, strongest
	case api.XUn:
		return slices.Concat([]string{x.S}, m.exprTokens(x.L[0], strongest)), strongest
	case api.XCond:
		return slices.Concat(m.exprTokens(x.L[0], 1), []string{"?"}, m.exprTokens(x.L[1], 0), []string{":"}, m.exprTokens(x.L[2], 0)), 0
	}
	strong := 1 + strength(x.S)
	onLeft := strong
	if strong == 3 {
		onLeft++
	}
	return slices.Concat(m.exprTokens(x.L[0], onLeft), []string{x.S}, m.exprTokens(x.L[1], strong+1)), strong
}

// plainPrint is Print of any descriptions, also of those that there are not, and however long.
func plainPrint(l []api.Proto) string {
	out := ""
	for _, p := range l {
		out += "proto " + p.Name + " {\n" + plainItems(p.Items, "  ") + "}\n"
	}
	return out
}

func plainItems(l []api.Item, in string) string {
	out := ""
	for _, i := range l {
		out += plainItem(i, in)
	}
	return out
}

func plainItem(i api.Item, in string) string {
	x := ""
	if len(i.X) > 0 {
		x = plainExpr(i.X[0], false)
	}
	block := func(head string, b int) string {
		items := ""
		if b < len(i.B) {
			items = plainItems(i.B[b], in+"  ")
		}
		return in + head + " {\n" + items
	}
	end := in + "}\n"
	switch i.Op {
	case api.IField:
		out := in + i.S + ": "
		if i.Low {
			out += "low "
		}
		out += i.T
		if i.T == "bytes" || i.T == "text" {
			out += "(" + x + ")"
		} else {
			out += strconv.Itoa(i.N)
		}
		if i.U != "" {
			out += " " + plainQuote(i.U)
		}
		return out + ";\n"
	case api.ILet:
		return in + "let " + i.S + " = " + x + ";\n"
	case api.ICheck:
		return in + "check " + x + ": " + plainQuote(i.S) + " " + strconv.Itoa(i.N) + ";\n"
	case api.IIf:
		out := block("if ("+x+")", 0)
		if len(i.B) > 1 {
			out += block("} else", 1)
		}
		return out + end
	case api.IChoose:
		out := in + "choose (" + x + ") {\n"
		for at, n := range i.C {
			out += plainCase("case "+strconv.Itoa(n)+":", i.B, at, in+"  ")
		}
		if len(i.B) > len(i.C) {
			out += plainCase("default:", i.B, len(i.C), in+"  ")
		}
		return out + end
	case api.IRepeat:
		return block("repeat ("+x+")", 0) + end
	case api.IUntil:
		return block("until", 0) + end
	case api.IWithin:
		return block("within ("+x+")", 0) + end
	case api.ISub:
		return block("sub "+i.S, 0) + end
	case api.IGoes:
		return in + "goes " + i.S + ";\n"
	case api.INext:
		return in + "next " + i.S + "(" + x + ");\n"
	case api.ITry:
		return in + "try " + strings.Join(i.P, ", ") + ";\n"
	case api.IStop:
		return in + "stop " + x + ";\n"
	}
	return ""
}

func plainCase(head string, b [][]api.Item, at int, in string) string {
	items := ""
	if at < len(b) {
		items = plainItems(b[at], in+"  ")
	}
	return in + head + " {\n" + items + in + "}\n"
}

func plainExpr(x api.Expr, inside bool) string {
	operand := func(at int) string {
		if at >= len(x.L) {
			return ""
		}
		return plainExpr(x.L[at], true)
	}
	out := ""
	switch x.Op {
	case api.XNum:
		return strconv.Itoa(x.N)
	case api.XName:
		return x.S
	case api.XPref:
		return "@" + x.S
	case api.XLeft:
		return "left"
	case api.XHere:
		return "here"
	case api.XUn:
		return x.S + operand(0)
	case api.XBin:
		out = operand(0) + " " + x.S + " " + operand(1)
	case api.XCond:
		out = operand(0) + " ? " + operand(1) + " : " + operand(2)
	}
	if inside {
		return "(" + out + ")"
	}
	return out
}

func plainQuote(s string) string {
	out := ""
	for i := range len(s) {
		switch c := s[i]; {
		case c == '\n':
			out += `\n`
		case c == '"' || c == '\\':
			out += `\` + string(c)
		case c < ' ' || c > '~':
			out += fmt.Sprintf(`\x%02x`, c)
		default:
			out += string(c)
		}
	}
	return `"` + out + `"`
}

// plainSize returns the numbers of nodes and levels.
func plainSize(l []api.Proto) (int, int) {
	nodes, levels := 0, 0
	for _, p := range l {
		n, m := plainItemsSize(p.Items)
		nodes, levels = nodes+1+n, max(levels, 1+m)
	}
	return nodes, levels
}

func plainItemsSize(l []api.Item) (int, int) {
	nodes, levels := 0, 0
	for _, i := range l {
		nodes, levels = nodes+1, max(levels, 1)
		for _, x := range i.X {
			n, m := plainExprSize(x)
			nodes, levels = nodes+n, max(levels, 1+m)
		}
		for _, b := range i.B {
			n, m := plainItemsSize(b)
			nodes, levels = nodes+n, max(levels, 1+m)
		}
	}
	return nodes, levels
}

func plainExprSize(x api.Expr) (int, int) {
	nodes, levels := 1, 1
	for _, y := range x.L {
		n, m := plainExprSize(y)
		nodes, levels = nodes+n, max(levels, 1+m)
	}
	return nodes, levels
}

// TestManyDescriptions makes descriptions, and reads and prints them.
func TestManyDescriptions(t *testing.T) {
	m := maker{rand.New(rand.NewSource(7))}
	for range 4000 {
		l := m.protos(3)
		if e := tree.Validate(l); e != api.OK {
			t.Fatalf("Validate of %v: %d", l, e)
		}
		source := m.source(l)
		if len(source) > api.MaxSource {
			continue
		}
		if got, _, e := tree.Parse(source); !alike(got, l) || e != api.OK {
			t.Fatalf("Parse of %q: %v, %d; not %v", source, got, e, l)
		}
		want := plainPrint(l)
		text, e := tree.Print(l)
		if text != want || e != api.OK {
			t.Fatalf("Print of %v: %q, %d; not %q", l, text, e, want)
		}
		again, _, e := tree.Parse(text)
		if !alike(again, l) || e != api.OK || !tree.Same(again, l) {
			t.Fatalf("Parse of Print of %v: %v, %d", l, again, e)
		}
		nodes, levels := plainSize(l)
		if n, m, e := tree.Size(l); n != nodes || m != levels || e != api.OK {
			t.Fatalf("Size of %v: %d, %d, %d; not %d, %d", l, n, m, e, nodes, levels)
		}
	}
}

func TestManyExpressions(t *testing.T) {
	m := maker{rand.New(rand.NewSource(8))}
	for range 20000 {
		x := m.expr(1 + m.Intn(5))
		if e := tree.ValidateExpr(x); e != api.OK {
			t.Fatalf("ValidateExpr of %v: %d", x, e)
		}
		source := m.blanks(m.exprTokens(x, 0))
		if len(source) > api.MaxSource {
			continue
		}
		if got, _, e := tree.ParseExpr(source); !alike(got, x) || e != api.OK {
			t.Fatalf("ParseExpr of %q: %v, %d; not %v", source, got, e, x)
		}
		want := plainExpr(x, false)
		text, e := tree.PrintExpr(x)
		if text != want || e != api.OK {
			t.Fatalf("PrintExpr of %v: %q, %d; not %q", x, text, e, want)
		}
		if again, _, e := tree.ParseExpr(text); !alike(again, x) || e != api.OK || !tree.SameExpr(again, x) {
			t.Fatalf("ParseExpr of PrintExpr of %v: %v, %d", x, again, e)
		}
	}
}
