package parse

import (
	"armature/api"
	"armature/ast"
	"armature/lex"
	"reflect"
	"strings"
	"testing"
)

type ex = api.Expr

func num(n int) ex             { return ex{Kind: api.EInt, N: n} }
func local(s string) ex        { return ex{Kind: api.ELocal, S: s} }
func un(s string, a ex) ex     { return ex{Kind: api.EUnary, S: s, Args: []ex{a}} }
func bin(s string, a, b ex) ex { return ex{Kind: api.EBinary, S: s, Args: []ex{a, b}} }

func test(kind int, name string, a ex) ex {
	return ex{Kind: kind, Type: api.Type{Base: 'L', Name: name}, Args: []ex{a}}
}

func TestExpressions(t *testing.T) { // P55.1, P55.3
	a, b, c := local("a"), local("b"), local("c")
	for s, want := range map[string]ex{
		"a + b * - c": bin("+", a, bin("*", b, un("-", c))), "a - b - c": bin("-", bin("-", a, b), c), "a is A == 1": bin("==", test(api.EInstanceOf, "A", a), num(1)), "a < b is A as B": test(api.ECast, "B", test(api.EInstanceOf, "A", bin("<", a, b))), "a << b < c": bin("<", bin("<<", a, b), c), "a || b && c | a ^ b & c == a": bin("||", a, bin("&&", b, bin("|", c, bin("^", a, bin("&", b, bin("==", c, a)))))), "a >>> b >> c + a": bin(">>", bin(">>>", a, b), bin("+", c, a)), "! - a . f": un("!", un("-", ex{Kind: api.EField, S: "f", Args: []ex{a}})), "- a * b": bin("*", un("-", a), b), "( a + b ) * c": bin("*", bin("+", a, b), c), "((a))": a, "a != b == c": bin("==", bin("!=", a, b), c), "a % b / c": bin("/", bin("%", a, b), c), "a <= b >= c > a": bin(">", bin(">=", bin("<=", a, b), c), a),
		"a.f(b).g[1]": {Kind: api.EIndex, Args: []ex{{Kind: api.EField, S: "g", Args: []ex{{Kind: api.EMethodCall, S: "f", Args: []ex{a, b}}}}, num(1)}}, "p::A.f": {Kind: api.EStaticField, S: "f", Class: "p/A"}, "A.f(1,2)": {Kind: api.EStaticCall, S: "f", Class: "A", Args: []ex{num(1), num(2)}}, "super.f()": {Kind: api.ESuperCall, S: "f"}, "new A()": {Kind: api.ENew, Class: "A"}, "new A[1]": {Kind: api.ENewArray, Type: api.Type{Base: 'L', Name: "A"}, Args: []ex{num(1)}}, "new int[][1][2]": {Kind: api.EIndex, Args: []ex{{Kind: api.ENewArray, Type: api.Type{Dim: 1, Base: 'I'}, Args: []ex{num(1)}}, num(2)}}, "len(a)+int(b)+long(c)": bin("+", bin("+", ex{Kind: api.ELength, Args: []ex{a}}, ex{Kind: api.EToInt, Args: []ex{b}}), ex{Kind: api.EToLong, Args: []ex{c}}), "1L": {Kind: api.ELong, N: 1}, `"x"`: {Kind: api.EString, S: "x"}, "null": {Kind: api.ENull}, "this": {Kind: api.EThis}, "a as int[][]": {Kind: api.ECast, Type: api.Type{Dim: 2, Base: 'I'}, Args: []ex{a}},
	} {
		e, at, err := ParseExpr(s)
		if err != api.OK || at != 0 || !reflect.DeepEqual(e, want) {
			t.Errorf("%s: %+v %d %d", s, e, at, err)
			continue
		}
		text, err := ast.FormatExpr(e)
		if back, _, e2 := ParseExpr(text); err != api.OK || e2 != api.OK || !reflect.DeepEqual(back, e) {
			t.Error(s, text, err, e2)
		}
	}
}

func TestExpressionErrors(t *testing.T) { // P55.1, P55.2
	for s, x := range map[string]struct {
		at int
		e  api.Errno
	}{
		"": {0, api.ErrSyntax}, "a +": {3, api.ErrSyntax}, "a + ) b": {4, api.ErrSyntax}, "a b": {2, api.ErrSyntax}, "A": {1, api.ErrSyntax}, "A b": {2, api.ErrSyntax}, "A.B": {2, api.ErrSyntax}, "a::b": {0, api.ErrSyntax}, "a.A": {2, api.ErrSyntax}, "a as b": {5, api.ErrSyntax}, "a as A[1]": {7, api.ErrSyntax}, "a as A.f": {6, api.ErrSyntax}, "(a": {2, api.ErrSyntax}, "(a b": {3, api.ErrSyntax}, "a[": {2, api.ErrSyntax}, "a[]": {2, api.ErrSyntax}, "f(a)": {1, api.ErrSyntax}, "a.f(a,)": {6, api.ErrSyntax}, "a.f(a b)": {6, api.ErrSyntax}, "super": {5, api.ErrSyntax}, "super.f": {7, api.ErrSyntax}, "super(1)": {5, api.ErrSyntax}, "new": {3, api.ErrSyntax}, "new a": {4, api.ErrSyntax}, "new A": {5, api.ErrSyntax}, "new int(1)": {7, api.ErrSyntax}, "new int[]": {9, api.ErrSyntax}, "new int[] + 1": {10, api.ErrSyntax}, "new int[2][]": {11, api.ErrSyntax}, "int a": {4, api.ErrSyntax}, "len a": {4, api.ErrSyntax}, "a = b": {2, api.ErrSyntax}, "class": {0, api.ErrSyntax}, "a;": {1, api.ErrSyntax}, "+a": {0, api.ErrSyntax}, "a++": {2, api.ErrSyntax}, "a @": {2, api.ErrBadToken}, "1 + 01": {4, api.ErrBadToken}, "void": {0, api.ErrSyntax}, "! is A": {2, api.ErrSyntax},
		`"\x00"`: {0, api.ErrMalformed}, "a as int[][][][][][][][][]": {0, api.ErrMalformed}, "new int[][][][][][][][][1]": {0, api.ErrMalformed}, strings.Repeat("-", 24) + "a": {0, api.ErrTooDeep}, strings.Repeat("-", 23) + "a": {0, api.OK}, "A.f(" + strings.Repeat("a,", 16) + "a)": {0, api.ErrMalformed}, strings.Repeat("(", 2000) + "a" + strings.Repeat(")", 2000): {0, api.OK}, strings.Repeat("(", 4000): {4000, api.ErrSyntax}, strings.Repeat(" ", 20001): {0, api.ErrTooLarge}, strings.Repeat(";", 5001): {0, api.ErrTooMany},
	} {
		e, at, err := ParseExpr(s)
		if at != x.at || err != x.e || err != api.OK && !reflect.DeepEqual(e, ex{}) {
			t.Errorf("%.40q: %d %d, want %d %d", s, at, err, x.at, x.e)
		}
	}
}

const program = "public abstract class p::A extends B implements I , J { protected static final long x ; long y ; static { return ; } private new ( int a ) { super ( a ) ; try { throw a ; } catch ( E e ) { return ; } } public static final p::A [ ] f ( int a , int b ) { int [ ] x = a ; a = 1 ; if ( a ) { A . f ( ) ; } else { while ( 1 ) { } } if ( 0 ) { } sync ( a ) { { } } super . f ( ) ; int ( 1L ) [ 1 ] = a . b ; return x ; } sync void g ( ) { } protected abstract void h ( ) ; } public interface I extends J { public void a ( ) { } public abstract void b ( ) ; } class E extends lang::Object { } interface J { } final class F extends A { }"

func TestPrograms(t *testing.T) { // P55.1, P55.3, P55.4
	l, at, e := ParseProgram(program)
	if e != api.OK || at != 0 || len(l) != 5 {
		t.Fatal(l, at, e)
	}
	if s, e := ast.Format(l); s != program || e != api.OK {
		t.Error(s, e)
	}
	a := l[0]
	if a.Flags != api.Public|api.Abstract || a.Name != "p/A" || len(a.Interfaces) != 2 || a.Fields[0].Flags != api.Protected|api.Static|api.Final || a.Methods[0].Name != "<init>" || a.Methods[0].Result.Base != 'V' || a.Methods[2].Flags != api.Synchronized || a.Methods[3].HasBody || l[1].Flags != api.Public|api.Interface|api.Abstract || l[1].Super != "lang/Object" || l[1].Interfaces[0] != "J" || l[3].Flags != api.Interface|api.Abstract {
		t.Errorf("%+v", l)
	}
	tokens, _, _ := lex.Tokenize(program)
	var b strings.Builder
	for _, x := range tokens {
		s, _ := lex.FormatToken(x)
		b.WriteString(" " + s + " // comment\n")
	}
	if m, _, e := ParseProgram(b.String()); e != api.OK || !ast.Equal(l, m) {
		t.Error(e)
	}
	if l, at, e := ParseProgram(" // nothing"); e != api.OK || at != 0 || len(l) != 0 {
		t.Error(l, at, e)
	}
	mixed := "class A extends B { void f ( ) { } static { return ; } int x ; static { A . f ( ) ; } int y ; }"
	m, _, e := ParseProgram(mixed)
	if e != api.OK || len(m[0].StaticInit) != 2 || m[0].StaticInit[0].Kind != api.SReturn || m[0].Fields[1].Name != "y" || len(m[0].Methods) != 1 {
		t.Error(m, e)
	}
}

func TestProgramErrors(t *testing.T) { // P55.1, P55.2
	for s, x := range map[string]struct {
		at int
		e  api.Errno
	}{
		"class A extends B": {17, api.ErrSyntax}, "class a": {6, api.ErrSyntax}, "class A {": {8, api.ErrSyntax}, "x": {0, api.ErrSyntax}, "public public class": {7, api.ErrSyntax}, "final interface": {6, api.ErrSyntax}, "abstract final": {9, api.ErrSyntax}, "final public": {6, api.ErrSyntax}, "interface I implements": {12, api.ErrSyntax}, "interface I extends J , {": {24, api.ErrSyntax}, "class A extends B extends": {18, api.ErrSyntax}, "class A extends B { private public int x": {28, api.ErrSyntax}, "class A extends B { static static": {27, api.ErrSyntax}, "class A extends B { public static {": {34, api.ErrSyntax}, "class A extends B { static final {": {33, api.ErrSyntax}, "class A extends B { {": {20, api.ErrSyntax}, "class A extends B { void x ;": {27, api.ErrSyntax}, "class A extends B { void [": {25, api.ErrSyntax}, "class A extends B { int x = 1": {26, api.ErrSyntax}, "class A extends B { int x [": {26, api.ErrSyntax}, "class A extends B { int A": {24, api.ErrSyntax}, "class A extends B { new A": {24, api.ErrSyntax}, "class A extends B { new ( ) ;": {28, api.ErrSyntax}, "class A extends B { int f ( int": {31, api.ErrSyntax}, "class A extends B { int f ( int )": {32, api.ErrSyntax}, "class A extends B { int f ( int a , )": {36, api.ErrSyntax}, "class A extends B { int f ( void": {28, api.ErrSyntax}, "class A extends B { } }": {22, api.ErrSyntax}, "class A extends B { } #": {22, api.ErrBadToken},
		"class A extends B { int x ; int x ; }": {0, api.ErrDuplicate}, "class A extends B { static abstract void f ( ) ; }": {0, api.ErrMalformed}, "class A extends B { void f ( ) ; }": {0, api.ErrMalformed}, "interface I { int x ; }": {0, api.ErrMalformed}, "class A extends B { void f ( ) { super ( ) ; } }": {0, api.ErrMalformed}, "class A extends B { } class A extends B { }": {0, api.ErrDuplicate},
	} {
		if l, at, e := ParseProgram(s); at != x.at || e != x.e || l != nil {
			t.Errorf("%q: %d %d, want %d %d", s, at, e, x.at, x.e)
		}
	}
}

func TestBlocks(t *testing.T) { // P55.1, P55.2
	l, at, e := ParseBlock("A x = null; A[] y = x; A.f(); A.f = 1; int i = 1; int(1L).f = 2; long(1).f(); super.f(); this.f = 1; { } if (x) { } else { } a[1] = 2; new A();")
	if e != api.OK || at != 0 || len(l) != 13 || l[1].Type.Dim != 1 || l[0].Kind != api.SLocal || l[2].Kind != api.SExpr || l[3].Kind != api.SAssign || l[10].Kind != api.SIf || l[10].Alternative != nil {
		t.Errorf("%+v %d %d", l, at, e)
	}
	if l, at, e := ParseBlock(""); len(l) != 0 || at != 0 || e != api.OK {
		t.Error(l, at, e)
	}
	for s, x := range map[string]struct {
		at int
		e  api.Errno
	}{
		"1 = 2 ;": {0, api.ErrMalformed}, "1 ;": {0, api.ErrMalformed}, "a . f ;": {0, api.ErrMalformed}, "super ( ) ;": {0, api.ErrMalformed}, strings.Repeat("{", 25) + strings.Repeat("}", 25): {0, api.ErrTooDeep}, strings.Repeat("{}", 33): {0, api.ErrMalformed}, strings.Repeat("{}", 32): {0, api.OK},
		"A": {1, api.ErrSyntax}, "A +": {2, api.ErrSyntax}, "A [ 1": {4, api.ErrSyntax}, "A x": {3, api.ErrSyntax}, "A x ;": {4, api.ErrSyntax}, "A B": {2, api.ErrSyntax}, "int": {3, api.ErrSyntax}, "int 1": {4, api.ErrSyntax}, "super": {5, api.ErrSyntax}, "super x": {6, api.ErrSyntax}, "super [": {6, api.ErrSyntax}, "super . x ;": {10, api.ErrSyntax}, "x": {1, api.ErrSyntax}, "x y": {2, api.ErrSyntax}, "x = ;": {4, api.ErrSyntax}, "x = 1 = 2": {6, api.ErrSyntax}, "if x": {3, api.ErrSyntax}, "if ( x ) y": {9, api.ErrSyntax}, "else": {0, api.ErrSyntax}, "try { } x": {8, api.ErrSyntax}, "try { } catch ( int": {19, api.ErrSyntax}, "try { } catch ( E e ) ;": {22, api.ErrSyntax}, "return": {6, api.ErrSyntax}, "return }": {7, api.ErrSyntax}, "throw ;": {6, api.ErrSyntax}, "while ( ) ": {8, api.ErrSyntax}, "sync { }": {5, api.ErrSyntax}, "{": {1, api.ErrSyntax}, "}": {0, api.ErrSyntax}, ";": {0, api.ErrSyntax}, "void x": {0, api.ErrSyntax}, "a::b = 1": {0, api.ErrSyntax},
	} {
		if l, at, e := ParseBlock(s); at != x.at || e != x.e || e != api.OK && l != nil {
			t.Errorf("%q: %d %d, want %d %d", s, at, e, x.at, x.e)
		}
	}
}

func TestFirstError(t *testing.T) { // P55.5
	tokens, _, _ := lex.Tokenize(program)
	for i, x := range tokens {
		broken := program[:x.At] + "= = " + program[x.At:]
		_, at, e := ParseProgram(broken)
		if e != api.ErrSyntax {
			continue
		}
		for _, rest := range []string{"", " class", " = } { 1", " " + program} {
			end := at + 1
			for end < len(broken) && broken[end] != ' ' {
				end++
			}
			if _, at2, e2 := ParseProgram(broken[:end] + rest); at2 != at || e2 != e {
				t.Error(i, at, at2, e2)
			}
		}
	}
}
