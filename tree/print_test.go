package tree_test

import (
	"strings"
	"testing"

	"wireglass/api"
	"wireglass/tree"
)

// printed is a text as Print gives it, with everything that the chapter names.
const printed = `proto eth {
  dst: bytes(6) "a\"\\\n\x00~";
  kind: u16;
}
proto a {
}
proto all {
  u: low i48 "ms";
  i: i1;
  u16: u1;
  t: text((left - 2) * 8);
  let x = a ? b : c;
  let y = (a ? b : c) ? (d ? e : f) : (g ? h : k);
  let z = ((a || b) && (c == d)) | (e ^ (f & g));
  let v = -(a + b) - -c;
  let w = !-~@p + -(a ? 1 : 2);
  let r = --1 << (here >> (left % 3));
  check x == 1: "odd" 3;
  check !x: "" 0;
  check a ? 1 : 0: "cond" 2;
  if (x) {
    goes a;
  }
  if (x >= 281474976710655) {
  } else {
    if (y) {
      stop left == 0;
    } else {
      stop 1;
    }
  }
  choose (x & 255) {
    case 4: {
      x: u8;
    }
    case 0: {
    }
    default: {
      choose (y) {
      }
      choose (y) {
        default: {
        }
      }
    }
  }
  repeat (n * 2) {
    sub s {
      until {
        within (left - 1) {
          next port(tcp.dst);
        }
      }
    }
  }
  try a;
  try a, b.c, _;
}
`

func TestPrintIsAsSaid(t *testing.T) {
	l, _, e := tree.Parse(printed)
	if e != api.OK {
		t.Fatalf("Parse: %d", e)
	}
	if s, e := tree.Print(l); s != printed || e != api.OK {
		t.Errorf("Print: %d\n%s\nnot\n%s", e, s, printed)
	}
	for s, want := range map[string]string{
		"":                                             "",
		"proto a{}proto b{}":                           "proto a {\n}\nproto b {\n}\n",
		"proto a { x : u 0x10 ; }":                     "proto a {\n  x: u16;\n}\n",
		"proto a { x : low i 016 \"\" ; }":             "proto a {\n  x: low i16;\n}\n",
		"proto a { x:bytes( ((left)) )\"b\"; }":        "proto a {\n  x: bytes(left) \"b\";\n}\n",
		"proto a { x:text(10.0.0.1); }":                "proto a {\n  x: text(167772161);\n}\n",
		"proto a { check(x):\"\\x41\"; }":              "proto a {\n  check x: \"A\" 2;\n}\n",
		"proto a { if((x)){}else{} }":                  "proto a {\n  if (x) {\n  } else {\n  }\n}\n",
		"proto a { next t((1+2)); try b,c; }":          "proto a {\n  next t(1 + 2);\n  try b, c;\n}\n",
		"proto a { let x=a+b*c-d; }":                   "proto a {\n  let x = (a + (b * c)) - d;\n}\n",
		"proto a { choose(1){default:{}} // b\n}":      "proto a {\n  choose (1) {\n    default: {\n    }\n  }\n}\n",
		"proto a { choose(1){case 0x1:{stop a?b:c;}}}": "proto a {\n  choose (1) {\n    case 1: {\n      stop a ? b : c;\n    }\n  }\n}\n",
	} {
		l, _, e := tree.Parse(s)
		if text, f := tree.Print(l); text != want || e != api.OK || f != api.OK {
			t.Errorf("Print of %q: %q, %d, %d", s, text, e, f)
		}
	}
}

func TestPrintExprIsAsSaid(t *testing.T) {
	for s, want := range map[string]string{
		"1": "1", "007": "7", "0xff": "255", "1.0.0.0": "16777216", "( a )": "a", "@ p": "@p", "left": "left", "here": "here", "- 1": "-1", "- - a": "--a", "!(~a)": "!~a", "-(@p)": "-@p",
		"a+b": "a + b", "a+b+c": "(a + b) + c", "a+(b+c)": "a + (b + c)", "-(a*b)": "-(a * b)", "-a*b": "-a * b", "a--b": "a - -b", "a?b:c": "a ? b : c", "a?b:c?d:e": "a ? b : (c ? d : e)", "(a?b:c)+1": "(a ? b : c) + 1", "!(a?b:c)": "!(a ? b : c)",
		"a==b?c+d:-e": "(a == b) ? (c + d) : -e", "a<=b": "a <= b", "a!=!b": "a != !b",
	} {
		x, _, e := tree.ParseExpr(s)
		if text, f := tree.PrintExpr(x); text != want || e != api.OK || f != api.OK {
			t.Errorf("PrintExpr of %q: %q, %d, %d", s, text, e, f)
		}
	}
	for _, s := range operators {
		for _, op := range strings.Fields(s) {
			if text, e := tree.PrintExpr(bin(name("a"), op, num(1))); text != "a "+op+" 1" || e != api.OK {
				t.Errorf("PrintExpr with %q: %q, %d", op, text, e)
			}
		}
	}
}

// long returns a description of which Print has 6000 bytes and so many more.
func long(more int) []api.Proto {
	l := proto("a") // "proto a {\n}\n": 12 bytes
	for range 299 {
		l[0].Items = append(l[0].Items, number("abcdefgh", "u", 32)) // "  abcdefgh: u32;\n": 17 bytes
	}
	size := 12 + 299*17
	for size+22 <= 6000 {
		l[0].Items = append(l[0].Items, number("abcdefghijklm", "u", 32)) // 22 bytes
		size += 22
	}
	l[0].Name = strings.Repeat("p", 1+6000-size) // at most 16, as the sizes are
	l[0].Items[0].S += strings.Repeat("x", more)
	return l
}

func TestPrintIsTooLong(t *testing.T) {
	l := long(0)
	s, e := tree.Print(l)
	if len(s) != api.MaxSource || e != api.OK {
		t.Fatalf("Print of a long description: %d bytes, %d", len(s), e)
	}
	if again, _, e := tree.Parse(s); !alike(again, l) || e != api.OK {
		t.Errorf("Parse of a long Print: %d", e)
	}
	l = long(1)
	if s, e := tree.Print(l); s != "" || e != api.ErrLarge {
		t.Errorf("Print that is too long: %d bytes, %d", len(s), e)
	}
	if e := tree.Validate(l); e != api.OK {
		t.Errorf("Validate of what has too long a Print: %d", e)
	}
	l[0].Items[5].S = "5" // what is no description is told first
	if s, e := tree.Print(l); s != "" || e != api.ErrArg {
		t.Errorf("Print that is too long of what is wrong: %d bytes, %d", len(s), e)
	}
	if n, m, e := tree.Size(long(1)); n != 1+len(long(1)[0].Items) || m != 2 || e != api.OK {
		t.Errorf("Size of what has too long a Print: %d, %d, %d", n, m, e)
	}
	x := wide(4)
	if e := tree.ValidateExpr(x); e != api.OK {
		t.Errorf("ValidateExpr of what has too long a Print: %d", e)
	}
	if s, e := tree.PrintExpr(x); s != "" || e != api.ErrLarge {
		t.Errorf("PrintExpr that is too long: %d bytes, %d", len(s), e)
	}
	if s, e := tree.PrintExpr(wide(3)); s != plainExpr(wide(3), false) || e != api.OK {
		t.Errorf("PrintExpr: %q, %d", s, e)
	}
}

// wide returns an expression of conditions in each other, of so many levels, with sums of long names.
func wide(levels int) api.Expr {
	x := name("abcdefghijklmnop")
	if levels == 0 {
		return bin(bin(x, "+", x), "-", bin(x, "+", x))
	}
	return cond(wide(levels-1), wide(levels-1), wide(levels-1))
}
