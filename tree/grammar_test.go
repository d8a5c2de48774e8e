package tree_test

import (
	"math/rand"
	"regexp"
	"slices"
	"strconv"
	"strings"
	"testing"

	"wireglass/api"
	"wireglass/lex"
	"wireglass/tree"
)

// The grammar as the chapter says it, with the rules about numbers of bits, graves and lengths of texts as words of their own.
const grammar = `
descr = { "proto" name "{" items "}" }
items = { item }
item = name ":" type [ text ] ";" | "let" name "=" expr ";" | "check" expr ":" text [ grave ] ";" | "stop" expr ";" | "if" "(" expr ")" block [ "else" block ] | "choose" "(" expr ")" "{" { "case" number ":" block } [ "default" ":" block ] "}" | "repeat" "(" expr ")" block | "until" block | "within" "(" expr ")" block | "sub" name block | "goes" name ";" | "next" name "(" expr ")" ";" | "try" name { "," name } ";"
block = "{" items "}"
type = "low" lowbits | bits | ( "bytes" | "text" ) "(" expr ")"
expr = or [ "?" expr ":" expr ]
or = and { "||" and }
and = cmp { "&&" cmp }
cmp = bor [ ( "==" | "!=" | "<" | "<=" | ">" | ">=" ) bor ]
bor = bxor { "|" bxor }
bxor = band { "^" band }
band = shift { "&" shift }
shift = sum { ( "<<" | ">>" ) sum }
sum = prod { ( "+" | "-" ) prod }
prod = unary { ( "*" | "/" | "%" ) unary }
unary = ( "-" | "!" | "~" ) unary | number | name | "left" | "here" | "@" name | "(" expr ")"
`

// form is a part of the grammar: a word of it, or parts that are one of `|`, behind each other `_`, perhaps `[` or often `{`.
type form struct {
	kind byte
	word string
	l    []*form
}

// rules returns the rules of the grammar.
func rules() map[string]*form {
	out := map[string]*form{}
	for _, line := range strings.Split(strings.TrimSpace(grammar), "\n") {
		f := strings.Fields(line)
		out[f[0]], _ = rule(f[2:])
	}
	return out
}

// rule returns the rule that words begin with, up to a closing one, and the words from this on.
func rule(l []string) (*form, []string) {
	any, all := &form{kind: '|'}, &form{kind: '_'}
	for len(l) > 0 && !strings.Contains("]})", l[0]) {
		word := l[0]
		l = l[1:]
		switch word {
		case "|":
			any.l = append(any.l, all)
			all = &form{kind: '_'}
		case "[", "{", "(":
			var inner *form
			inner, l = rule(l)
			l = l[1:]
			all.l = append(all.l, &form{kind: word[0], l: []*form{inner}})
		default:
			all.l = append(all.l, &form{word: word})
		}
	}
	any.l = append(any.l, all)
	return any, l
}

// place is a part of the grammar at a token.
type place struct {
	f  *form
	at int
}

// recogniser tries everything everywhere. The furthest token at which something was tried and did not fit is the first one that does not fit.
type recogniser struct {
	rules map[string]*form
	l     []api.Token
	seen  map[place][]int
	far   int
}

// misfit returns the first token that does not fit, or -1.
func misfit(rules map[string]*form, start string, l []api.Token) int {
	r := recogniser{rules: rules, l: l, seen: map[place][]int{}}
	if slices.Contains(r.ends(rules[start], 0), len(l)) {
		return -1
	}
	return r.far
}

// ends returns all tokens at which what a part of the grammar has from a token on may end.
func (r *recogniser) ends(f *form, at int) []int {
	p := place{f, at}
	if out, ok := r.seen[p]; ok {
		return out
	}
	out := r.find(f, at)
	slices.Sort(out)
	out = slices.Compact(out)
	r.seen[p] = out
	return out
}

func (r *recogniser) find(f *form, at int) []int {
	var out []int
	switch f.kind {
	case '|':
		for _, x := range f.l {
			out = append(out, r.ends(x, at)...)
		}
	case '_':
		out = []int{at}
		for _, x := range f.l {
			out = r.behind(x, out)
		}
	case '(':
		out = r.ends(f.l[0], at)
	case '[':
		out = append(r.ends(f.l[0], at), at)
	case '{':
		out = []int{at}
		for more := out; len(more) > 0; {
			more = r.behind(f.l[0], more)
			out = append(out, more...)
		}
	default:
		return r.word(f.word, at)
	}
	return slices.Clone(out)
}

// behind returns the ends of a part of the grammar from all of some tokens on.
func (r *recogniser) behind(f *form, l []int) []int {
	var out []int
	for _, at := range l {
		out = append(out, r.ends(f, at)...)
	}
	slices.Sort(out)
	return slices.Compact(out)
}

func (r *recogniser) word(s string, at int) []int {
	if f := r.rules[s]; f != nil {
		return r.ends(f, at)
	}
	if s == "bits" || s == "lowbits" {
		return r.bits(s == "lowbits", at)
	}
	return r.take(at, func(t api.Token) bool {
		switch s {
		case "name":
			return t.Kind == api.KWord && !slices.Contains(tree.Keywords(), t.Text)
		case "number":
			return t.Kind == api.KNum
		case "grave":
			return t.Kind == api.KNum && t.N <= 4
		case "text":
			return t.Kind == api.KStr && len(t.Text) <= 40
		}
		return (t.Kind == api.KWord || t.Kind == api.KSign) && `"`+t.Text+`"` == s
	})
}

// take returns the place behind a token, if it fits.
func (r *recogniser) take(at int, fits func(api.Token) bool) []int {
	if at < len(r.l) && fits(r.l[at]) {
		return []int{at + 1}
	}
	r.far = max(r.far, at)
	return nil
}

var oneWord = regexp.MustCompile(`^[ui]([0-9]+)$`)

func (r *recogniser) bits(low bool, at int) []int {
	fits := func(n int) bool { return n >= 1 && n <= 48 && (!low || n%8 == 0) }
	behind := r.take(at, func(t api.Token) bool {
		if t.Kind != api.KWord {
			return false
		}
		if t.Text == "u" || t.Text == "i" {
			return true
		}
		m := oneWord.FindStringSubmatch(t.Text)
		if m == nil {
			return false
		}
		n, err := strconv.Atoi(m[1])
		return err == nil && fits(n)
	})
	if behind == nil || len(r.l[at].Text) > 1 {
		return behind
	}
	return r.take(at+1, func(t api.Token) bool { return t.Kind == api.KNum && fits(t.N) })
}

// doubleCase returns the first number of a case that stands twice in its choose, among the tokens before one.
func doubleCase(l []api.Token, before int) int {
	var around []map[int]bool // for each brace that is open: the numbers of its cases
	for i, t := range l[:before] {
		switch {
		case t.Kind == api.KSign && t.Text == "{":
			around = append(around, map[int]bool{})
		case t.Kind == api.KSign && t.Text == "}":
			around = around[:len(around)-1]
		case i > 0 && t.Kind == api.KNum && l[i-1].Kind == api.KWord && l[i-1].Text == "case":
			seen := around[len(around)-1]
			if seen[t.N] {
				return i
			}
			seen[t.N] = true
		}
	}
	return -1
}

// firstMisfit does so with cases, too.
func firstMisfit(rules map[string]*form, start string, l []api.Token) int {
	at := misfit(rules, start, l)
	before := at
	if at < 0 {
		before = len(l)
	}
	if double := doubleCase(l, before); double >= 0 {
		return double
	}
	return at
}

// other returns tokens with something changed.
func (m maker) other(l []api.Token) []api.Token {
	pool := []string{
		"proto", "let", "check", "stop", "if", "else", "choose", "case", "default", "repeat", "until", "within", "sub", "goes", "next", "try", "left", "here", "low", "bytes", "text",
		"a", "u", "i", "u8", "i7", "u49", "u0", "low", "{", "}", "(", ")", ",", ":", ";", "?", "+", "-", "*", "==", "<", "&&", "||", "|", "!", "~", "=", "@", "#", ".", "[", "0", "1", "4", "5", "8", "48", "49", `"a"`, `""`, `"` + strings.Repeat("b", 41) + `"`,
	}
	t, _, _ := lex.Lex(m.one(pool...))
	at := m.Intn(len(l) + 1)
	out := slices.Clone(l[:at])
	switch m.Intn(4) {
	case 0:
		return append(append(out, t...), l[at:]...)
	case 1:
		return append(out, l[min(at+1, len(l)):]...)
	case 2:
		return append(append(out, t...), l[min(at+1, len(l)):]...)
	}
	other := m.Intn(len(l) + 1)
	return append(out, l[max(at, other):]...)
}

// TestParseByTheGrammar changes sources of random descriptions, and asks both parsers where they are wrong.
func TestParseByTheGrammar(t *testing.T) {
	m := maker{rand.New(rand.NewSource(5))}
	rules := rules()
	counts := map[bool]int{}
	for range 6000 {
		l, _, e := lex.Lex(m.source(m.protos(2)))
		if e != api.OK {
			t.Fatalf("a source is wrong: %d", e)
		}
		for range m.Intn(4) {
			l = m.other(l)
		}
		s, e := lex.Text(l)
		if e != api.OK {
			continue // it is too long
		}
		want := firstMisfit(rules, "descr", l)
		counts[want >= 0]++
		got, n, e := tree.Parse(s)
		if want < 0 && (e != api.OK || n != len(l)) || want >= 0 && (e != api.ErrSyntax || n != want || len(got) != 0) {
			t.Fatalf("Parse of %q: %d, %d; not %d", s, n, e, want)
		}
	}
	if counts[false] < 500 || counts[true] < 500 {
		t.Errorf("right and wrong sources: %v", counts)
	}
}

func TestParseExprByTheGrammar(t *testing.T) {
	m := maker{rand.New(rand.NewSource(6))}
	rules := rules()
	for range 6000 {
		l, _, _ := lex.Lex(m.blanks(m.exprTokens(m.expr(1+m.Intn(5)), 0)))
		for range m.Intn(3) {
			l = m.other(l)
		}
		s, _ := lex.Text(l)
		want := misfit(rules, "expr", l)
		got, n, e := tree.ParseExpr(s)
		if want < 0 && (e != api.OK || n != len(l)) || want >= 0 && (e != api.ErrSyntax || n != want || !alike(got, api.Expr{})) {
			t.Fatalf("ParseExpr of %q: %d, %d; not %d", s, n, e, want)
		}
	}
}
