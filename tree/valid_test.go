package tree_test

import (
	"math"
	"math/rand"
	"reflect"
	"slices"
	"strings"
	"testing"

	"wireglass/api"
	"wireglass/lex"
	"wireglass/tree"
)

// valid makes sure what Validate says of descriptions, and that the other functions say it, too.
func valid(t *testing.T, l []api.Proto, want api.Errno) {
	t.Helper()
	if e := tree.Validate(l); e != want {
		t.Errorf("Validate of %.200v: %d, not %d", l, e, want)
	}
	if want == api.OK {
		return
	}
	if s, e := tree.Print(l); s != "" || e != want {
		t.Errorf("Print of %.200v: %q, %d, not %d", l, s, e, want)
	}
	if n, m, e := tree.Size(l); n != 0 || m != 0 || e != want {
		t.Errorf("Size of %.200v: %d, %d, %d, not %d", l, n, m, e, want)
	}
	if names, e := tree.Names(l); len(names) != 0 || e != want {
		t.Errorf("Names of %.200v: %q, %d, not %d", l, names, e, want)
	}
}

// validItem does so for an item, alone and in others, behind others.
func validItem(t *testing.T, i api.Item, want api.Errno) {
	t.Helper()
	valid(t, proto("a", i), want)
	valid(t, []api.Proto{{Name: "b"}, {Name: "a", Items: some(goes("x"), sub("s", goes("y"), i))}}, want)
	valid(t, proto("a", choice(num(1), nil, some(i))), want)
	valid(t, proto("a", choose(num(1), []int{1}, nil, some(until(i)))), want)
}

// validExpr does so for an expression, alone and in items and others.
func validExpr(t *testing.T, x api.Expr, want api.Errno) {
	t.Helper()
	for _, y := range []api.Expr{x, un("-", x), bin(num(1), "+", x), bin(x, "==", num(1)), cond(x, num(1), num(2)), cond(num(1), x, num(2)), cond(num(1), num(2), x)} {
		if e := tree.ValidateExpr(y); e != want {
			t.Errorf("ValidateExpr of %.200v: %d, not %d", y, e, want)
		}
		if s, e := tree.PrintExpr(y); e != want || (s == "") != (want != api.OK) {
			t.Errorf("PrintExpr of %.200v: %q, %d, not %d", y, s, e, want)
		}
		for _, i := range []api.Item{sized("a", "bytes", y), let("a", y), check(y, "", 0), stop(y), choice(y, nil), choose(y, nil), repeat(y), within(y), next("t", y)} {
			valid(t, proto("a", i), want)
		}
	}
}

// badNames are no names of anything.
var badNames = []string{"", " ", "a ", " a", "1", "1a", "a-b", "a.", ".a", "a..b", "a b", "a;", "a: u8; b", "//", "a//", "\"a\"", "é", "\x00", "a\n", "abcdefghijklmnopq", "left", "here", "low", "bytes", "text", "proto", "try", "default"}

func TestValidateNames(t *testing.T) {
	for _, s := range []string{"a", "_", "u", "i", "u16", "u16.x", "i0", "abcdefghijklmnop", "a.0.b", "Proto", "lefty"} {
		valid(t, proto(s), api.OK)
		for _, i := range []api.Item{number(s, "u", 8), sized(s, "text", num(1)), let(s, num(1)), sub(s), goes(s), next(s, num(1)), try(s), try("a", s, s)} {
			validItem(t, i, api.OK)
		}
		validExpr(t, name(s), api.OK)
		validExpr(t, pref(s), api.OK)
	}
	for _, s := range slices.Concat(badNames, tree.Keywords()) {
		valid(t, proto(s), api.ErrArg)
		valid(t, []api.Proto{{Name: "a"}, {Name: s}}, api.ErrArg)
		for _, i := range []api.Item{number(s, "u", 8), sized(s, "text", num(1)), let(s, num(1)), sub(s), goes(s), next(s, num(1)), try(s), try("a", s), try(s, "a")} {
			validItem(t, i, api.ErrArg)
		}
		validExpr(t, name(s), api.ErrArg)
		validExpr(t, pref(s), api.ErrArg)
	}
}

func TestValidateFields(t *testing.T) {
	for n := -1; n <= 57; n++ {
		fits, fitsLow := api.ErrArg, api.ErrArg
		if n >= 1 && n <= 48 {
			fits = api.OK
			if n%8 == 0 {
				fitsLow = api.OK
			}
		}
		for _, kind := range []string{"u", "i"} {
			validItem(t, number("a", kind, n), fits)
			validItem(t, low(number("a", kind, n)), fitsLow)
		}
	}
	for _, n := range []int{math.MinInt, math.MaxInt, -8, 1 << 48, 256, 1<<32 + 8} {
		validItem(t, number("a", "u", n), api.ErrArg)
		validItem(t, low(number("a", "i", n)), api.ErrArg)
	}
	for _, kind := range []string{"", "U", "u8", "i1", "u ", " u", "x", "low u", "byte", "low", "name", "u16; b: u"} {
		validItem(t, number("a", kind, 8), api.ErrArg)
		validItem(t, sized("a", kind, num(1)), api.ErrArg)
	}
	for _, kind := range []string{"bytes", "text"} {
		f := sized("a", kind, num(1))
		validItem(t, f, api.OK)
		validItem(t, low(f), api.ErrArg)
		validItem(t, number("a", kind, 8), api.ErrArg)
		validItem(t, number("a", kind, 0), api.ErrArg)
		f.N = 8
		validItem(t, f, api.ErrArg)
		f.N, f.X = 0, []api.Expr{num(1), num(2)}
		validItem(t, f, api.ErrArg)
	}
	f := number("a", "u", 8)
	f.X = []api.Expr{num(8)}
	validItem(t, f, api.ErrArg)
}

func TestValidateTexts(t *testing.T) {
	for _, s := range []string{"", "a", "\x00\n\"\\\xff", strings.Repeat("\xff", 40)} {
		validItem(t, check(num(1), s, 1), api.OK)
		validItem(t, unit(number("a", "i", 1), s), api.OK)
		validItem(t, unit(sized("a", "text", num(1)), s), api.OK)
	}
	for _, s := range []string{strings.Repeat("a", 41), strings.Repeat("\x00", 41), strings.Repeat("a", 201), strings.Repeat("a", 10000)} {
		validItem(t, check(num(1), s, 1), api.ErrArg)
		validItem(t, unit(number("a", "i", 1), s), api.ErrArg)
		validItem(t, unit(sized("a", "text", num(1)), s), api.ErrArg)
	}
	for n := -1; n <= 5; n++ {
		want := api.OK
		if n < 0 || n > 4 {
			want = api.ErrArg
		}
		validItem(t, check(num(1), "a", n), want)
	}
	validItem(t, check(num(1), "a", math.MaxInt), api.ErrArg)
	validItem(t, check(num(1), "a", math.MinInt), api.ErrArg)
}

func TestValidateCases(t *testing.T) {
	for _, c := range []struct {
		cases, blocks int
		want          api.Errno
	}{{0, 0, api.OK}, {0, 1, api.OK}, {0, 2, api.ErrArg}, {1, 0, api.ErrArg}, {1, 1, api.OK}, {1, 2, api.OK}, {1, 3, api.ErrArg}, {3, 2, api.ErrArg}, {3, 3, api.OK}, {3, 4, api.OK}, {3, 5, api.ErrArg}} {
		validItem(t, choose(num(1), []int{7, 0, 1<<48 - 1}[:c.cases], make([][]api.Item, c.blocks)...), c.want)
	}
	for _, l := range [][]int{{-1}, {1 << 48}, {math.MaxInt}, {math.MinInt}, {1, 1}, {1, 2, 1}, {0, 1, 2, 3, 4, 4}} {
		validItem(t, choose(num(1), l, make([][]api.Item, len(l))...), api.ErrArg)
		validItem(t, choose(num(1), l, make([][]api.Item, len(l)+1)...), api.ErrArg)
	}
	many := make([]int, 100000)
	for i := range many {
		many[i] = i
	}
	valid(t, proto("a", choose(num(1), many, make([][]api.Item, len(many))...)), api.OK)
	if s, e := tree.Print(proto("a", choose(num(1), many, make([][]api.Item, len(many))...))); s != "" || e != api.ErrLarge {
		t.Errorf("Print of many cases: %d bytes, %d", len(s), e)
	}
	many[5] = 99999
	valid(t, proto("a", choose(num(1), many, make([][]api.Item, len(many))...)), api.ErrArg)
	valid(t, proto("a", try(strings.Split(strings.Repeat("b ", 99999)+"b", " ")...)), api.OK)
	valid(t, proto("a", try(strings.Split(strings.Repeat("b ", 99999), " ")...)), api.ErrArg)
	validItem(t, try(), api.ErrArg)
}

// items returns an item of each kind.
func items() []api.Item {
	return []api.Item{
		number("a", "u", 8), low(number("a", "i", 8)), unit(number("a", "u", 1), "s"), sized("a", "bytes", num(1)), unit(sized("a", "text", num(1)), "s"), let("a", num(1)), check(num(1), "a", 2), check(num(1), "", 0),
		choice(num(1), nil), choice(num(1), nil, nil), choose(num(1), nil), choose(num(1), []int{0}, nil), choose(num(1), []int{1}, nil, nil), repeat(num(1)), until(), within(num(1)), sub("a"), goes("a"), next("a", num(1)), try("a"), stop(num(1)),
	}
}

// TestValidateParts gives each kind of items each part that it does not have, and takes away what it has.
func TestValidateParts(t *testing.T) {
	has := func(i api.Item, ops ...int) bool { return slices.Contains(ops, i.Op) }
	for _, i := range items() {
		validItem(t, i, api.OK)
		isSized := i.T == "bytes" || i.T == "text"
		for _, c := range []struct {
			change func(*api.Item)
			wrong  bool
		}{
			{func(i *api.Item) { i.S = "b" }, !has(i, api.IField, api.ILet, api.ICheck, api.ISub, api.IGoes, api.INext)},
			{func(i *api.Item) { i.S = "" }, has(i, api.IField, api.ILet, api.ISub, api.IGoes, api.INext)},
			{func(i *api.Item) { i.T = "u" }, i.Op != api.IField || isSized},
			{func(i *api.Item) { i.T = "" }, i.Op == api.IField},
			{func(i *api.Item) { i.N = 1 }, isSized || i.Low || !has(i, api.IField, api.ICheck)},
			{func(i *api.Item) { i.N = 0 }, i.Op == api.IField && !isSized},
			{func(i *api.Item) { i.N = -1 }, true},
			{func(i *api.Item) { i.Low = true }, i.Op != api.IField || isSized || i.N%8 != 0},
			{func(i *api.Item) { i.U = "s" }, i.Op != api.IField},
			{func(i *api.Item) { i.P = []string{"a"} }, i.Op != api.ITry},
			{func(i *api.Item) { i.P = []string{""} }, true},
			{func(i *api.Item) { i.P = nil }, i.Op == api.ITry},
			{func(i *api.Item) { i.P = []string{} }, i.Op == api.ITry},
			{func(i *api.Item) { i.C = append(i.C, 9) }, i.Op != api.IChoose || len(i.B) == len(i.C)},
			{func(i *api.Item) { i.C = []int{} }, i.Op == api.IChoose && len(i.B) > 1},
			{func(i *api.Item) { i.X = append(i.X, num(1)) }, true},
			{func(i *api.Item) { i.X = nil }, len(i.X) > 0},
			{func(i *api.Item) { i.X = []api.Expr{} }, len(i.X) > 0},
			{func(i *api.Item) { i.B = nil }, len(i.B) > 0 && !(i.Op == api.IChoose && len(i.C) == 0)},
			{func(i *api.Item) { i.B = [][]api.Item{} }, len(i.B) > 0 && !(i.Op == api.IChoose && len(i.C) == 0)},
			{func(i *api.Item) { i.B = append(slices.Clone(i.B), nil) }, !(has(i, api.IIf) && len(i.B) == 1 || has(i, api.IChoose) && len(i.B) == len(i.C))},
			{func(i *api.Item) { i.Op = -1 }, true},
			{func(i *api.Item) { i.Op = 13 }, true},
			{func(i *api.Item) { i.Op = math.MaxInt }, true},
		} {
			j := i
			j.X, j.C = slices.Clone(i.X), slices.Clone(i.C)
			c.change(&j)
			want := api.OK
			if c.wrong {
				want = api.ErrArg
			}
			validItem(t, j, want)
		}
	}
}

func TestValidateExpressions(t *testing.T) {
	for _, x := range []api.Expr{num(0), num(1<<48 - 1), left(), here(), un("-", num(1)), un("!", left()), un("~", un("-", here())), cond(num(1), num(2), num(3))} {
		validExpr(t, x, api.OK)
	}
	for _, l := range operators {
		for _, s := range strings.Fields(l) {
			validExpr(t, bin(name("a"), s, num(1)), api.OK)
		}
	}
	for _, s := range []string{"", "+", "=", "- ", "--", "-!", "!~", "==", "a", "@", "("} {
		validExpr(t, un(s, num(1)), api.ErrArg)
	}
	for _, s := range []string{"", "!", "~", "=", "+ ", "++", "===", "?", ":", ",", "a", "..", "<<<", "in", "and"} {
		validExpr(t, bin(num(1), s, num(2)), api.ErrArg)
	}
	one := []api.Expr{num(1)}
	two, three, four := append(one[:1:1], one...), append(one[:1:1], one[0], one[0]), append(one[:1:1], one[0], one[0], one[0])
	for _, x := range []api.Expr{
		num(-1), num(1 << 48), num(math.MinInt), num(math.MaxInt), {Op: -1}, {Op: 8}, {Op: math.MaxInt, S: "a"},
		{Op: api.XNum, S: "1"}, {Op: api.XNum, N: 1, L: one}, {Op: api.XName, S: "a", N: 1}, {Op: api.XName, S: "a", L: one}, {Op: api.XPref, S: "a", N: 1}, {Op: api.XPref, S: "a", L: one}, {Op: api.XPref, S: "@a"},
		{Op: api.XLeft, S: "left"}, {Op: api.XLeft, N: 1}, {Op: api.XLeft, L: one}, {Op: api.XHere, S: "here"}, {Op: api.XHere, N: 1}, {Op: api.XHere, L: one},
		{Op: api.XUn, S: "-"}, {Op: api.XUn, S: "-", L: two}, {Op: api.XUn, S: "-", N: 1, L: one}, {Op: api.XUn, S: "-", L: []api.Expr{num(-1)}},
		{Op: api.XBin, S: "+"}, {Op: api.XBin, S: "+", L: one}, {Op: api.XBin, S: "+", L: three}, {Op: api.XBin, S: "+", N: 1, L: two}, {Op: api.XBin, S: "-", L: []api.Expr{num(1), {Op: api.XBin, S: "-"}}},
		{Op: api.XCond}, {Op: api.XCond, L: two}, {Op: api.XCond, L: four}, {Op: api.XCond, S: "?", L: three}, {Op: api.XCond, N: 1, L: three},
	} {
		validExpr(t, x, api.ErrArg)
	}
	validExpr(t, api.Expr{Op: api.XLeft, L: []api.Expr{}}, api.OK)
}

// deep returns an expression of so many levels.
func deep(levels int) api.Expr {
	x := num(1)
	for range levels - 1 {
		x = un("-", x)
	}
	return x
}

// inside returns an item in so many others.
func inside(others int, i api.Item) api.Item {
	for range others {
		i = until(i)
	}
	return i
}

func TestValidateLimits(t *testing.T) {
	valid(t, make([]api.Proto, 31), api.ErrLarge) // before the names
	valid(t, make([]api.Proto, 30), api.ErrArg)
	valid(t, slices.Repeat(proto("a"), 30), api.OK)
	valid(t, slices.Repeat(proto("a"), 31), api.ErrLarge)
	many := func(n int, i api.Item) []api.Item { return slices.Repeat(some(i), n) }
	valid(t, proto("a", many(799, goes("a"))...), api.OK)
	valid(t, proto("a", many(800, goes("a"))...), api.ErrLarge)
	valid(t, proto("a", many(800, api.Item{})...), api.ErrLarge)
	valid(t, proto("a", many(799, api.Item{})...), api.ErrArg)
	valid(t, append(proto("a", many(399, goes("a"))...), proto("b", many(399, goes("a"))...)...), api.OK)
	valid(t, append(proto("a", many(399, goes("a"))...), proto("b", many(400, goes("a"))...)...), api.ErrLarge)
	valid(t, proto("a", sub("s", many(798, goes("a"))...)), api.OK)
	valid(t, proto("a", sub("s", many(799, goes("a"))...)), api.ErrLarge)
	valid(t, proto("a", choice(num(1), many(398, goes("a")), many(399, goes("a")))), api.OK)
	valid(t, proto("a", choice(num(1), many(399, goes("a")), many(399, goes("a")))), api.ErrLarge)
	valid(t, proto("a", append(many(266, let("a", un("-", num(1)))), goes("a"))...), api.OK)
	valid(t, proto("a", append(many(266, let("a", un("-", num(1)))), goes("a"), goes("a"))...), api.ErrLarge)
	valid(t, proto("a", append(many(399, stop(num(1))), goes("a"))...), api.OK)
	valid(t, proto("a", many(400, stop(num(1)))...), api.ErrLarge)
	for n := 1; n <= 14; n++ {
		valid(t, proto("a", inside(n-1, goes("a"))), []api.Errno{api.OK, api.ErrLarge}[n/14])
		valid(t, proto("a", inside(n-1, goes("5"))), []api.Errno{api.ErrArg, api.ErrLarge}[n/14])
		valid(t, proto("a", inside(12-min(n, 12), let("a", deep(n)))), []api.Errno{api.OK, api.ErrLarge}[n/13])
		if e := tree.ValidateExpr(deep(n)); e != api.OK {
			t.Errorf("ValidateExpr of %d levels: %d", n, e)
		}
	}
	if e := tree.ValidateExpr(deep(15)); e != api.ErrLarge {
		t.Errorf("ValidateExpr of 15 levels: %d", e)
	}
	if s, e := tree.PrintExpr(deep(15)); s != "" || e != api.ErrLarge {
		t.Errorf("PrintExpr of 15 levels: %q, %d", s, e)
	}
}

// TestValidateLimitsOfWhatIsWrong has nodes where no description has any. They count, and are told first.
func TestValidateLimitsOfWhatIsWrong(t *testing.T) {
	wide := func(n int) []api.Expr { return slices.Repeat([]api.Expr{num(1)}, n) }
	valid(t, proto("a", api.Item{Op: api.IGoes, S: "a", X: wide(798)}), api.ErrArg)
	valid(t, proto("a", api.Item{Op: api.IGoes, S: "a", X: wide(799)}), api.ErrLarge)
	valid(t, proto("a", api.Item{Op: 77, B: blocks(make([]api.Item, 400), make([]api.Item, 398))}), api.ErrArg)
	valid(t, proto("a", api.Item{Op: 77, B: blocks(make([]api.Item, 400), make([]api.Item, 399))}), api.ErrLarge)
	for n, want := range map[int]api.Errno{799: api.ErrArg, 800: api.ErrLarge} {
		if e := tree.ValidateExpr(api.Expr{Op: api.XName, S: "a", L: wide(n)}); e != want {
			t.Errorf("ValidateExpr of %d nodes: %d", n+1, e)
		}
	}
	shared := num(1) // 2^40 nodes, were they counted to the end
	for range 40 {
		shared = bin(shared, "+", shared)
	}
	valid(t, proto("a", stop(shared)), api.ErrLarge)
	if e := tree.ValidateExpr(shared); e != api.ErrLarge {
		t.Errorf("ValidateExpr of what is shared: %d", e)
	}
	ring := []api.Expr{num(1)}
	ring[0].L = ring
	if e := tree.ValidateExpr(ring[0]); e != api.ErrLarge {
		t.Errorf("ValidateExpr of a ring: %d", e)
	}
	loop := some(until())
	loop[0].B[0] = loop
	valid(t, proto("a", loop...), api.ErrLarge)
	far := un("-", num(1))
	for range 1 << 16 {
		far = un("-", far)
	}
	if e := tree.ValidateExpr(far); e != api.ErrLarge {
		t.Errorf("ValidateExpr of 2^16 levels: %d", e)
	}
}

// copied returns a copy of a value that shares nothing with it.
func copied(v reflect.Value) reflect.Value {
	out := reflect.New(v.Type()).Elem()
	switch v.Kind() {
	case reflect.Slice:
		for i := range v.Len() {
			out.Set(reflect.Append(out, copied(v.Index(i))))
		}
	case reflect.Struct:
		for i := range v.NumField() {
			out.Field(i).Set(copied(v.Field(i)))
		}
	default:
		out.Set(v)
	}
	return out
}

// places returns all numbers, texts, bools and slices that are in a value.
func places(v reflect.Value) []reflect.Value {
	var out []reflect.Value
	switch v.Kind() {
	case reflect.Slice:
		out = append(out, v)
		for i := range v.Len() {
			out = append(out, places(v.Index(i))...)
		}
	case reflect.Struct:
		for i := range v.NumField() {
			out = append(out, places(v.Field(i))...)
		}
	default:
		out = append(out, v)
	}
	return out
}

// change changes a place.
func (m maker) change(v reflect.Value) {
	switch v.Kind() {
	case reflect.Int:
		v.SetInt(int64([]int{-1, 0, 1, 2, 3, 4, 5, 6, 7, 8, 9, 10, 11, 12, 13, 48, 49, 1<<48 - 1, 1 << 48, math.MaxInt}[m.Intn(20)]))
	case reflect.Bool:
		v.SetBool(!v.Bool())
	case reflect.String:
		v.SetString(m.one("", "a", "b", "u", "i", "u8", "bytes", "text", "left", "here", "low", "-", "!", "+", "==", "<", "||", "a b", "a + b", "1", "-1", "a; b: u8", "a: u8; b", "(a)", strings.Repeat("a", 17), strings.Repeat("a", 40), strings.Repeat("a", 41)))
	case reflect.Slice:
		switch n := v.Len(); {
		case n == 0 || m.Intn(3) == 0:
			v.Set(reflect.Append(v, reflect.New(v.Type().Elem()).Elem()))
		case m.Intn(2) == 0:
			v.Set(reflect.Append(v, copied(v.Index(m.Intn(n)))))
		default:
			v.Set(v.Slice(0, n-1))
		}
	}
}

// TestValidateIsParseOfPrint changes descriptions, and reads what is printed of them.
func TestValidateIsParseOfPrint(t *testing.T) {
	m := maker{rand.New(rand.NewSource(9))}
	counts := map[api.Errno]int{}
	for range 40000 {
		before := m.protos(2)
		l := copied(reflect.ValueOf(before))
		for range 1 + m.Intn(2) {
			p := places(l)
			m.change(p[m.Intn(len(p))])
		}
		changed := l.Interface().([]api.Proto)
		if tree.Same(before, changed) != alike(before, changed) || tree.Same(changed, before) != alike(before, changed) {
			t.Fatalf("Same of %v and %v", before, changed)
		}
		text := plainPrint(changed)
		got, _, e := tree.Parse(text)
		if nodes, levels := plainSize(changed); nodes > 800 || levels > 14 || len(text) > api.MaxSource || tokens(text) > api.MaxTokens {
			continue
		}
		want := api.OK
		if e != api.OK || !alike(got, changed) {
			want = api.ErrArg
		}
		counts[want]++
		if e := tree.Validate(changed); e != want {
			t.Fatalf("Validate of %v: %d, not %d", changed, e, want)
		}
	}
	if counts[api.OK] < 1000 || counts[api.ErrArg] < 1000 {
		t.Errorf("right and wrong descriptions: %v", counts)
	}
}

// tokens returns how many tokens there are; 0 of what is no source.
func tokens(s string) int {
	_, n, e := lex.Lex(s)
	if e == api.ErrLarge {
		return api.MaxTokens + 1
	}
	return n
}

func TestValidateExprIsParseOfPrint(t *testing.T) {
	m := maker{rand.New(rand.NewSource(10))}
	counts := map[api.Errno]int{}
	for range 40000 {
		x := copied(reflect.ValueOf([]api.Expr{m.expr(1 + m.Intn(4))}))
		p := places(x.Index(0))
		m.change(p[m.Intn(len(p))])
		changed := x.Index(0).Interface().(api.Expr)
		want := api.OK
		if got, _, e := tree.ParseExpr(plainExpr(changed, false)); e != api.OK || !alike(got, changed) {
			want = api.ErrArg
		}
		counts[want]++
		if e := tree.ValidateExpr(changed); e != want {
			t.Fatalf("ValidateExpr of %v: %d, not %d", changed, e, want)
		}
	}
	if counts[api.OK] < 1000 || counts[api.ErrArg] < 1000 {
		t.Errorf("right and wrong expressions: %v", counts)
	}
}
