package tree

import (
	"slices"

	"wireglass/api"
	"wireglass/lex"
)

const (
	maxNote  = 40 // bytes of a note or unit
	maxGrave = 4  // the greatest grave
)

// Validate finds out whether descriptions are what Parse makes of their Print.
func Validate(l []api.Proto) api.Errno {
	if large(l) {
		return api.ErrLarge
	}
	for _, p := range l {
		if !isName(p.Name) || !itemsFit(p.Items) {
			return api.ErrArg
		}
	}
	return api.OK
}

// ValidateExpr does so for an expression.
func ValidateExpr(x api.Expr) api.Errno {
	if largeExpr(x) {
		return api.ErrLarge
	}
	if !exprFits(x) {
		return api.ErrArg
	}
	return api.OK
}

// size counts nodes and levels. It stops where there are too many, so that what has parts in common, or itself as a part, is no trouble.
type size struct {
	nodes, levels int
}

func large(l []api.Proto) bool {
	var s size
	return len(l) > api.MaxProtos || !s.protos(l)
}

func largeExpr(x api.Expr) bool {
	var s size
	return !s.expr(x, 1)
}

// protos counts descriptions, and tells whether there are not too many nodes.
func (s *size) protos(l []api.Proto) bool {
	for _, p := range l {
		if !s.node(1) || !s.items(p.Items, 2) {
			return false
		}
	}
	return true
}

// items does so for items of a level.
func (s *size) items(l []api.Item, level int) bool {
	for _, i := range l {
		if !s.node(level) || !s.exprs(i.X, level+1) {
			return false
		}
		for _, block := range i.B {
			if !s.items(block, level+1) {
				return false
			}
		}
	}
	return true
}

// exprs does so for expressions.
func (s *size) exprs(l []api.Expr, level int) bool {
	for _, x := range l {
		if !s.expr(x, level) {
			return false
		}
	}
	return true
}

func (s *size) expr(x api.Expr, level int) bool {
	return s.node(level) && s.exprs(x.L, level+1)
}

// node does so for a node alone.
func (s *size) node(level int) bool {
	s.nodes++
	s.levels = max(s.levels, level)
	return s.nodes <= api.MaxNodes && level <= api.MaxNest
}

// The parts of an item beside expressions and blocks.
const (
	partS = 1 << iota
	partT
	partN
	partLow
	partU
	partP
	partC
)

// shape is what parts a kind of items may have: which ones, how many expressions, and how many blocks at least and at most.
type shape struct {
	parts, exprs, least, most int
}

// shapeOf returns the shape of items as one, and whether there is this kind.
func shapeOf(i api.Item) (shape, bool) {
	switch i.Op {
	case api.IField:
		if isSized(i.T) {
			return shape{partS | partT | partU, 1, 0, 0}, true
		}
		return shape{partS | partT | partN | partLow | partU, 0, 0, 0}, true
	case api.ILet, api.INext:
		return shape{partS, 1, 0, 0}, true
	case api.ICheck:
		return shape{partS | partN, 1, 0, 0}, true
	case api.IIf:
		return shape{0, 1, 1, 2}, true
	case api.IChoose:
		return shape{partC, 1, len(i.C), len(i.C) + 1}, true
	case api.IRepeat, api.IWithin:
		return shape{0, 1, 1, 1}, true
	case api.IUntil:
		return shape{0, 0, 1, 1}, true
	case api.ISub:
		return shape{partS, 0, 1, 1}, true
	case api.IGoes:
		return shape{partS, 0, 0, 0}, true
	case api.ITry:
		return shape{partP, 0, 0, 0}, true
	case api.IStop:
		return shape{0, 1, 0, 0}, true
	}
	return shape{}, false
}

// partsOf returns which parts an item has.
func partsOf(i api.Item) int {
	out := 0
	for at, has := range [...]bool{i.S != "", i.T != "", i.N != 0, i.Low, i.U != "", len(i.P) > 0, len(i.C) > 0} {
		if has {
			out |= 1 << at
		}
	}
	return out
}

func itemsFit(l []api.Item) bool {
	for _, i := range l {
		if !itemFits(i) {
			return false
		}
	}
	return true
}

// itemFits tells whether an item is as it would be parsed.
func itemFits(i api.Item) bool {
	s, ok := shapeOf(i)
	if !ok || partsOf(i)&^s.parts != 0 || len(i.X) != s.exprs || len(i.B) < s.least || len(i.B) > s.most {
		return false
	}
	for _, block := range i.B {
		if !itemsFit(block) {
			return false
		}
	}
	return partsFit(i) && exprsFit(i.X)
}

// partsFit tells whether the parts of an item are as they would be parsed.
func partsFit(i api.Item) bool {
	switch i.Op {
	case api.IField:
		return isName(i.S) && typeFits(i) && textFits(i.U)
	case api.ILet, api.ISub, api.IGoes, api.INext:
		return isName(i.S)
	case api.ICheck:
		return textFits(i.S) && graveFits(i.N)
	case api.IChoose:
		return casesFit(i.C)
	case api.ITry:
		return len(i.P) > 0 && !slices.ContainsFunc(i.P, func(s string) bool { return !isName(s) })
	}
	return true
}

// isSized tells whether a type is one of a size in bytes.
func isSized(t string) bool {
	return t == "bytes" || t == "text"
}

func typeFits(f api.Item) bool {
	return isSized(f.T) || (f.T == "u" || f.T == "i") && bitsFit(f.N, f.Low)
}

// casesFit tells whether numbers are those of cases: none stands twice.
func casesFit(l []int) bool {
	seen := map[int]bool{}
	for _, n := range l {
		if seen[n] || !numberFits(n) {
			return false
		}
		seen[n] = true
	}
	return true
}

func exprsFit(l []api.Expr) bool {
	for _, x := range l {
		if !exprFits(x) {
			return false
		}
	}
	return true
}

// exprFits tells whether an expression is as it would be parsed.
func exprFits(x api.Expr) bool {
	if x.Op != api.XNum && x.N != 0 {
		return false
	}
	return len(x.L) == operands(x.Op) && signFits(x) && exprsFit(x.L)
}

// signFits tells whether the number or the text of an expression is one of its kind.
func signFits(x api.Expr) bool {
	switch x.Op {
	case api.XNum:
		return x.S == "" && numberFits(x.N)
	case api.XName, api.XPref:
		return isName(x.S)
	case api.XUn:
		return isUnary(x.S)
	case api.XBin:
		return isBinary(x.S)
	case api.XLeft, api.XHere, api.XCond:
		return x.S == ""
	}
	return false
}

// operands returns how many operands an operation has.
func operands(op int) int {
	switch op {
	case api.XUn:
		return 1
	case api.XBin:
		return 2
	case api.XCond:
		return 3
	}
	return 0
}

func isName(s string) bool {
	return lex.IsWord(s) && !isKeyword(s)
}

// numberFits tells whether a source may have a number.
func numberFits(n int) bool {
	return n >= 0 && n < 1<<api.MaxBits
}

func bitsFit(n int, low bool) bool {
	return n >= 1 && n <= api.MaxBits && (!low || n%8 == 0)
}

func graveFits(n int) bool {
	return n >= 0 && n <= maxGrave
}

func textFits(s string) bool {
	return len(s) <= maxNote
}
