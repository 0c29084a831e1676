package ast

import (
	"armature/api"
	"armature/lex"
	"strings"
	"testing"
)

type ex = api.Expr
type st = api.Stmt

func num(n int) ex                     { return ex{Kind: api.EInt, N: n} }
func local(s string) ex                { return ex{Kind: api.ELocal, S: s} }
func un(s string, a ex) ex             { return ex{Kind: api.EUnary, S: s, Args: []ex{a}} }
func bin(s string, a, b ex) ex         { return ex{Kind: api.EBinary, S: s, Args: []ex{a, b}} }
func class(s string, dim int) api.Type { return api.Type{Dim: dim, Base: 'L', Name: s} }

var void = api.Type{Base: 'V'}

func many(e ex, n int) []ex {
	var l []ex
	for range n {
		l = append(l, e)
	}
	return l
}

// exprs has well-formed expressions with their source code.
func exprs() map[string]ex {
	a, i := local("a"), api.Type{Base: 'I'}
	return map[string]ex{
		"1": num(1), "2147483647": num(1<<31 - 1), "9L": {Kind: api.ELong, N: 9}, `"x\n\""`: {Kind: api.EString, S: "x\n\""}, "null": {Kind: api.ENull}, "this": {Kind: api.EThis}, "a": a, "a . f": {Kind: api.EField, S: "f", Args: []ex{a}}, "p::A . f": {Kind: api.EStaticField, S: "f", Class: "p/A"}, "a [ 1 ]": {Kind: api.EIndex, Args: []ex{a, num(1)}}, "a . f ( )": {Kind: api.EMethodCall, S: "f", Args: []ex{a}}, "a . f ( 1 , a )": {Kind: api.EMethodCall, S: "f", Args: []ex{a, num(1), a}}, "A . f ( 1 )": {Kind: api.EStaticCall, S: "f", Class: "A", Args: []ex{num(1)}}, "super . f ( 1 )": {Kind: api.ESuperCall, S: "f", Args: []ex{num(1)}}, "new A ( a )": {Kind: api.ENew, Class: "A", Args: []ex{a}},
		"new int [ ] [ 2 ]": {Kind: api.ENewArray, Type: api.Type{Dim: 1, Base: 'I'}, Args: []ex{num(2)}}, "new int [ ] [ 2 ] [ 0 ]": {Kind: api.EIndex, Args: []ex{{Kind: api.ENewArray, Type: api.Type{Dim: 1, Base: 'I'}, Args: []ex{num(2)}}, num(0)}}, "- a": un("-", a), "! ( - a )": un("!", un("-", a)), "1 + ( - a )": bin("+", num(1), un("-", a)), "( 1 + a ) * a": bin("*", bin("+", num(1), a), a), "a as A [ ]": {Kind: api.ECast, Type: class("A", 1), Args: []ex{a}}, "( a as A ) is int [ ]": {Kind: api.EInstanceOf, Type: api.Type{Dim: 1, Base: 'I'}, Args: []ex{{Kind: api.ECast, Type: class("A", 0), Args: []ex{a}}}}, "len ( a )": {Kind: api.ELength, Args: []ex{a}}, "int ( a )": {Kind: api.EToInt, Args: []ex{a}}, "long ( 1 + a )": {Kind: api.EToLong, Args: []ex{bin("+", num(1), a)}}, "( - a ) . f": {Kind: api.EField, S: "f", Args: []ex{un("-", a)}}, "( a is A ) [ - a ]": {Kind: api.EIndex, Args: []ex{{Kind: api.EInstanceOf, Type: class("A", 0), Args: []ex{a}}, un("-", a)}}, "( a + a ) . f ( a + a )": {Kind: api.EMethodCall, S: "f", Args: []ex{bin("+", a, a), bin("+", a, a)}}, "a is int": {Kind: api.EInstanceOf, Type: i, Args: []ex{a}},
	}
}

func TestExpressions(t *testing.T) { // P54.1, P54.3
	for want, e := range exprs() {
		if s, err := FormatExpr(e); s != want || err != api.OK || !ValidExpr(e) {
			t.Errorf("%q: %q %d", want, s, err)
		}
		for k, f := range []func(*ex){func(e *ex) { e.N -= 1 << 40 }, func(e *ex) { e.S += "\x01" }, func(e *ex) { e.Class += "/" }, func(e *ex) { e.Type.Dim -= 20 }, func(e *ex) { e.Args = append([]ex{{}}, e.Args...) }, func(e *ex) { e.Kind += 100 }} {
			x := e
			f(&x)
			if s, err := FormatExpr(x); ValidExpr(x) || s != "" || err != api.ErrMalformed {
				t.Error(want, k, s, err)
			}
		}
	}
	for k, e := range []ex{{}, num(1 << 31), {Kind: api.EString, S: "\t"}, {Kind: api.EString, S: strings.Repeat("x", 1025)}, local("A"), local("int"), local("<init>"), local("a/b"), local(""), {Kind: api.EField, S: "f"}, {Kind: api.EStaticField, S: "f", Class: "a"}, {Kind: api.EMethodCall, S: "f"}, {Kind: api.EMethodCall, S: "f", Args: many(num(1), 18)}, {Kind: api.EStaticCall, S: "f", Class: "A", Args: many(num(1), 17)}, {Kind: api.ENew, Class: "A", Args: many(num(1), 17)}, {Kind: api.ENewArray, Type: api.Type{Dim: 8, Base: 'I'}, Args: many(num(1), 1)}, {Kind: api.ENewArray, Type: void, Args: many(num(1), 1)}, {Kind: api.ECast, Type: class("a", 0), Args: many(num(1), 1)}, {Kind: api.EIndex, Args: many(num(1), 3)}, un("+", num(1)), bin("=", num(1), num(1)), bin("", num(1), num(1)), bin("+ -", num(1), num(1)), {Kind: api.EUnary, S: "-"}, {Kind: api.ELength}, {Kind: 22}, {Kind: -1}} {
		if ValidExpr(e) {
			t.Error(k)
		}
	}
	if !ValidExpr(ex{Kind: api.EMethodCall, S: "f", Args: many(num(1), 17)}) || !ValidExpr(ex{Kind: api.EString, S: strings.Repeat("x", 1024)}) {
		t.Error("limits")
	}
}

func deep(n int) ex {
	e := num(1)
	for range n - 1 {
		e = un("-", e)
	}
	return e
}

func TestDepth(t *testing.T) { // P54.1, P54.3
	if Depth(ex{}) != 1 || Depth(bin("+", num(1), un("-", num(1)))) != 3 || Depth(deep(24)) != 24 {
		t.Error("Depth")
	}
	if _, e := FormatExpr(deep(24)); e != api.OK {
		t.Error(e)
	}
	if s, e := FormatExpr(deep(25)); s != "" || e != api.ErrTooDeep {
		t.Error(s, e)
	}
}

func call() ex { return ex{Kind: api.EStaticCall, Class: "A", S: "f"} }

func TestStatements(t *testing.T) { // P54.1
	a := local("a")
	block := func(l ...st) []st { return l }
	ret := st{Kind: api.SReturn}
	super := st{Kind: api.SSuper, Expr: ex{Args: []ex{num(1)}}}
	wide := make([]st, 33)
	for i := range wide {
		wide[i] = ret
	}
	for k, s := range []st{{Kind: api.SLocal, Type: class("A", 0), Name: "x", Expr: a}, {Kind: api.SAssign, Target: a, Expr: a}, {Kind: api.SExpr, Expr: call()}, {Kind: api.SIf, Expr: a}, {Kind: api.SIf, Expr: a, Body: block(ret), Alternative: block(ret)}, {Kind: api.SWhile, Expr: a, Body: block(ret)}, ret, {Kind: api.SReturn, Expr: a}, {Kind: api.SThrow, Expr: a}, {Kind: api.STry, Type: class("A", 0), Name: "x", Body: block(ret), Alternative: block(ret)}, {Kind: api.SSync, Expr: a, Body: wide[:32]}, {Kind: api.SBlock}, super, {Kind: api.SSuper}} {
		if !ValidStmt(s) {
			t.Error(k)
		}
		for n, f := range []func(*st){func(s *st) { s.Kind += 50 }, func(s *st) { s.Name += "<" }, func(s *st) { s.Type.Dim += 20 }, func(s *st) { s.Target.N++ }, func(s *st) { s.Expr.Class += "/" }, func(s *st) { s.Body = append(s.Body, super) }, func(s *st) { s.Alternative = append(s.Alternative, st{}) }} {
			x := s
			f(&x)
			if ValidStmt(x) {
				t.Error(k, n)
			}
		}
	}
	for k, s := range []st{{}, {Kind: api.SLocal, Type: void, Name: "x", Expr: a}, {Kind: api.SLocal, Type: class("A", 0), Name: "x"}, {Kind: api.SAssign, Target: num(1), Expr: a}, {Kind: api.SAssign, Expr: a}, {Kind: api.SExpr, Expr: a}, {Kind: api.SIf}, {Kind: api.SThrow}, {Kind: api.STry, Type: class("A", 0)}, {Kind: api.SSync, Expr: a, Body: wide}, {Kind: api.SBlock, Body: block(super)}, {Kind: api.SSuper, Expr: a}, {Kind: api.SSuper, Expr: ex{Args: many(a, 17)}}, {Kind: api.SSuper, Expr: ex{Args: many(ex{}, 1)}}, {Kind: api.SSuper, Expr: ex{N: 1}}, {Kind: 12}} {
		if ValidStmt(s) {
			t.Error(k)
		}
	}
}

func field(flags int, name string) api.FieldDecl {
	return api.FieldDecl{Flags: flags, Type: api.Type{Base: 'J'}, Name: name}
}

func method(flags int, name string, params ...api.Param) api.MethodDecl {
	return api.MethodDecl{Flags: flags, Result: void, Name: name, Params: params, HasBody: flags&api.Abstract == 0}
}

func param(s string) api.Param { return api.Param{Type: api.Type{Base: 'I'}, Name: s} }

func program() []api.ClassDecl {
	init := method(api.Private, "<init>", param("a"))
	init.Body = []st{{Kind: api.SSuper, Expr: ex{Args: []ex{local("a")}}}, {Kind: api.STry, Type: class("E", 0), Name: "e", Body: []st{{Kind: api.SThrow, Expr: local("a")}}, Alternative: []st{{Kind: api.SReturn}}}}
	f := method(api.Public|api.Static|api.Final, "f", param("a"), param("b"))
	f.Result = class("p/A", 1)
	f.Body = []st{{Kind: api.SLocal, Type: api.Type{Dim: 1, Base: 'I'}, Name: "x", Expr: local("a")}, {Kind: api.SAssign, Target: local("a"), Expr: num(1)}, {Kind: api.SIf, Expr: local("a"), Body: []st{{Kind: api.SExpr, Expr: call()}}, Alternative: []st{{Kind: api.SWhile, Expr: num(1)}}}, {Kind: api.SIf, Expr: num(0)}, {Kind: api.SSync, Expr: local("a"), Body: []st{{Kind: api.SBlock}}}, {Kind: api.SReturn, Expr: local("x")}}
	return []api.ClassDecl{
		{Flags: api.Public | api.Abstract, Name: "p/A", Super: "B", Interfaces: []string{"I", "J"}, Fields: []api.FieldDecl{field(api.Protected|api.Static|api.Final, "x"), field(0, "y")}, Methods: []api.MethodDecl{init, f, method(api.Synchronized, "g"), method(api.Protected|api.Abstract, "h")}, StaticInit: []st{{Kind: api.SReturn}}},
		{Flags: api.Public | api.Interface | api.Abstract, Name: "I", Super: "lang/Object", Interfaces: []string{"J"}, Methods: []api.MethodDecl{method(api.Public, "a"), method(api.Public|api.Abstract, "b")}},
		{Name: "E", Super: "lang/Object"}, {Flags: api.Interface | api.Abstract, Name: "J", Super: "lang/Object"}, {Flags: api.Final, Name: "F", Super: "A"},
	}
}

func TestFormat(t *testing.T) { // P54.3, P54.5
	want := "public abstract class p::A extends B implements I , J { protected static final long x ; long y ; static { return ; } private new ( int a ) { super ( a ) ; try { throw a ; } catch ( E e ) { return ; } } public static final p::A [ ] f ( int a , int b ) { int [ ] x = a ; a = 1 ; if ( a ) { A . f ( ) ; } else { while ( 1 ) { } } if ( 0 ) { } sync ( a ) { { } } return x ; } sync void g ( ) { } protected abstract void h ( ) ; } public interface I extends J { public void a ( ) { } public abstract void b ( ) ; } class E extends lang::Object { } interface J { } final class F extends A { }"
	s, e := Format(program())
	if s != want || e != api.OK {
		t.Errorf("%s\n%d", s, e)
	}
	l, _, e := lex.Tokenize(s)
	if e != api.OK {
		t.Fatal(e)
	}
	balance := map[string]int{}
	for _, x := range l {
		balance[x.S]++
	}
	if balance["("] != balance[")"] || balance["["] != balance["]"] || balance["{"] != balance["}"] {
		t.Error(balance)
	}
	if s, e := Format(nil); s != "" || e != api.OK {
		t.Error(s, e)
	}
	if s, e := Format([]api.ClassDecl{{Name: "E", Super: "A"}, {}}); s != "" || e != api.ErrMalformed {
		t.Error(s, e)
	}
}

func TestCheck(t *testing.T) { // P54.2, P54.4, P54.5
	base := program()
	if s, e := Check(base); s != "" || e != api.OK {
		t.Fatal(s, e)
	}
	source, _ := Format(base)
	a := func(l []api.ClassDecl) *api.ClassDecl { return &l[0] }
	m := func(l []api.ClassDecl, n int) *api.MethodDecl { return &l[0].Methods[n] }
	for k, x := range []struct {
		f func(l []api.ClassDecl)
		s string
		e api.Errno
	}{
		{func(l []api.ClassDecl) { a(l).Name = "a" }, "a", api.ErrMalformed}, {func(l []api.ClassDecl) { a(l).Super = "" }, "p/A", api.ErrMalformed}, {func(l []api.ClassDecl) { a(l).Interfaces[1] = "x" }, "p/A", api.ErrMalformed}, {func(l []api.ClassDecl) { a(l).Interfaces = make([]string, 9) }, "p/A", api.ErrMalformed}, {func(l []api.ClassDecl) { a(l).Flags = api.Final | api.Abstract }, "p/A", api.ErrMalformed}, {func(l []api.ClassDecl) { a(l).Flags = api.Private }, "p/A", api.ErrMalformed}, {func(l []api.ClassDecl) { l[3].Flags = api.Interface }, "J", api.ErrMalformed}, {func(l []api.ClassDecl) { l[3].Flags |= api.Final }, "J", api.ErrMalformed}, {func(l []api.ClassDecl) { l[3].Super = "E" }, "J", api.ErrMalformed}, {func(l []api.ClassDecl) { l[3].Fields = []api.FieldDecl{field(0, "x")} }, "J", api.ErrMalformed}, {func(l []api.ClassDecl) { l[3].StaticInit = []st{{Kind: api.SReturn}} }, "J", api.ErrMalformed}, {func(l []api.ClassDecl) { l[1].Methods[0].Flags = 0 }, "I", api.ErrMalformed}, {func(l []api.ClassDecl) { l[1].Methods[0].Flags |= api.Static }, "I", api.ErrMalformed}, {func(l []api.ClassDecl) { l[1].Methods[0] = method(api.Public, "<init>") }, "I", api.ErrMalformed},
		{func(l []api.ClassDecl) { a(l).Fields[0].Flags = 3 }, "p/A", api.ErrMalformed}, {func(l []api.ClassDecl) { a(l).Fields[0].Flags = api.Synchronized }, "p/A", api.ErrMalformed}, {func(l []api.ClassDecl) { a(l).Fields[0].Name = "X" }, "p/A", api.ErrMalformed}, {func(l []api.ClassDecl) { a(l).Fields[0].Type = void }, "p/A", api.ErrMalformed}, {func(l []api.ClassDecl) { a(l).Fields = make([]api.FieldDecl, 65) }, "p/A", api.ErrMalformed}, {func(l []api.ClassDecl) { a(l).Methods = make([]api.MethodDecl, 65) }, "p/A", api.ErrMalformed}, {func(l []api.ClassDecl) { a(l).StaticInit[0].Kind = api.SSuper }, "p/A", api.ErrMalformed},
		{func(l []api.ClassDecl) { m(l, 0).Result = api.Type{Base: 'I'} }, "p/A", api.ErrMalformed}, {func(l []api.ClassDecl) { m(l, 0).Flags = api.Static }, "p/A", api.ErrMalformed}, {func(l []api.ClassDecl) { m(l, 0).Flags = 5 }, "p/A", api.ErrMalformed}, {func(l []api.ClassDecl) { m(l, 0).HasBody = false }, "p/A", api.ErrMalformed}, {func(l []api.ClassDecl) { m(l, 0).Body[0], m(l, 0).Body[1] = m(l, 0).Body[1], m(l, 0).Body[0] }, "p/A", api.ErrMalformed}, {func(l []api.ClassDecl) { m(l, 1).Body = []st{{Kind: api.SSuper}} }, "p/A", api.ErrMalformed}, {func(l []api.ClassDecl) { m(l, 1).Params = make([]api.Param, 17) }, "p/A", api.ErrMalformed}, {func(l []api.ClassDecl) { m(l, 1).Params[0].Name = "A" }, "p/A", api.ErrMalformed}, {func(l []api.ClassDecl) { m(l, 1).Name = "<clinit>" }, "p/A", api.ErrMalformed}, {func(l []api.ClassDecl) { m(l, 1).Result = api.Type{Dim: 1, Base: 'V'} }, "p/A", api.ErrMalformed}, {func(l []api.ClassDecl) { m(l, 1).HasBody = false }, "p/A", api.ErrMalformed}, {func(l []api.ClassDecl) { m(l, 1).Flags |= api.Synchronized }, "p/A", api.ErrMalformed}, {func(l []api.ClassDecl) { m(l, 1).Flags |= api.Native }, "p/A", api.ErrMalformed}, {func(l []api.ClassDecl) { m(l, 3).HasBody = true }, "p/A", api.ErrMalformed}, {func(l []api.ClassDecl) { m(l, 3).Flags |= api.Final }, "p/A", api.ErrMalformed}, {func(l []api.ClassDecl) { m(l, 3).Body = []st{{Kind: api.SReturn}} }, "p/A", api.ErrMalformed},
		{func(l []api.ClassDecl) { m(l, 1).Body[5].Expr = deep(25) }, "p/A", api.ErrTooDeep}, {func(l []api.ClassDecl) { m(l, 1).Body[5].Expr = deep(24) }, "", api.OK}, {func(l []api.ClassDecl) { m(l, 0).Body[0].Expr.Args[0] = deep(25) }, "p/A", api.ErrTooDeep}, {func(l []api.ClassDecl) { m(l, 0).Body[0].Expr.Args[0] = deep(24) }, "", api.OK}, {func(l []api.ClassDecl) { a(l).StaticInit[0] = nested(25) }, "p/A", api.ErrTooDeep}, {func(l []api.ClassDecl) { a(l).StaticInit[0] = nested(24) }, "", api.OK}, {func(l []api.ClassDecl) { m(l, 1).Body[2].Alternative[0].Expr = deep(25); l[4].Name = "p/A" }, "p/A", api.ErrTooDeep},
		{func(l []api.ClassDecl) { l[4].Name = "E" }, "E", api.ErrDuplicate}, {func(l []api.ClassDecl) { a(l).Interfaces[1] = "I" }, "p/A", api.ErrDuplicate}, {func(l []api.ClassDecl) { a(l).Fields[1].Name = "x" }, "p/A", api.ErrDuplicate}, {func(l []api.ClassDecl) { m(l, 2).Name = "h" }, "p/A", api.ErrDuplicate}, {func(l []api.ClassDecl) { m(l, 2).Name = "f" }, "", api.OK}, {func(l []api.ClassDecl) { m(l, 2).Name = "y" }, "", api.OK},
	} {
		l := program()
		x.f(l)
		if s, e := Check(l); s != x.s || e != x.e {
			t.Errorf("case %d: %q %d, want %q %d", k, s, e, x.s, x.e)
		}
		if Equal(l, base) {
			t.Error("equal", k)
		}
		if s, e := Format(l); e != x.e || e == api.OK && s == source {
			t.Error("source", k, e)
		}
	}
	if !Equal(base, program()) || !Equal(nil, []api.ClassDecl{}) || !Equal([]api.ClassDecl{{Name: "A"}}, []api.ClassDecl{{Name: "A", Fields: []api.FieldDecl{}, StaticInit: []st{}}}) {
		t.Error("Equal")
	}
}

func nested(n int) st {
	s := st{Kind: api.SBlock}
	for range n - 1 {
		s = st{Kind: api.SBlock, Body: []st{s}}
	}
	return s
}
