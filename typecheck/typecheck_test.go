package typecheck

import (
	"armature/api"
	"armature/parse"
	"reflect"
	"slices"
	"strings"
	"testing"
)

func source(t *testing.T, s string) []api.ClassDecl {
	t.Helper()
	l, at, e := parse.ParseProgram(s)
	if e != api.OK {
		t.Fatal(s, at, e)
	}
	return l
}

const classes = `
interface I { public int i ( int a ) { return a ; } public abstract int j ( ) ; }
interface J extends I { public int i ( int a ) { return 1 ; } }
interface K { public int i ( int a ) { return 2 ; } public void k ( ) { } public abstract void ka ( ) ; }
class A extends lang::Object implements J { int x ; private long p ; static A s ; private static int ps ;
  public int j ( ) { return 1 ; } void v ( ) { } int f ( int a , A b ) { return a ; } private int priv ( ) { return 1 ; } static long st ( long a ) { return a ; } protected A [ ] arr ( ) { return null ; } }
class B extends A { new ( int a ) { } private new ( ) { } public int g ( ) { return 1 ; } }
abstract class C extends B implements K { new ( ) { super ( 1 ) ; } abstract void ab ( ) ; }
final class D extends lang::Object { private new ( int a ) { } }
class X extends lang::Exc { }
`

func decls(t *testing.T) []api.ClassDecl {
	return source(t, strings.Replace(classes, "class X extends lang::Exc { }", "class X extends lang::Throwable { }", 1))
}

func index(l []api.ClassDecl, s string) int {
	return slices.IndexFunc(l, func(c api.ClassDecl) bool { return c.Name == s })
}

func ty(s string) api.Type {
	base, dims, _ := strings.Cut(s, "[")
	t := api.Type{Dim: strings.Count("["+dims, "]")}
	switch base {
	case "int":
		t.Base = 'I'
	case "long":
		t.Base = 'J'
	case "void":
		t.Base = 'V'
	case "null":
		return api.Type{Dim: -1, Base: 'L', Name: "lang/Object"}
	default:
		t.Base, t.Name = 'L', base
	}
	return t
}

func locals() []api.Param {
	var l []api.Param
	for _, s := range strings.Fields("i:int l:long a:A b:B c:C d:D o:lang/Object ai:int[] aa:A[] ab:B[] aaa:A[][] k:K j:J x:X s:lang/String ao:lang/Object[]") {
		n, t, _ := strings.Cut(s, ":")
		l = append(l, api.Param{Name: n, Type: ty(t)})
	}
	return l
}

func TestExpressions(t *testing.T) { // P56.3
	l := decls(t)
	scope := api.Scope{Decls: l, Class: index(l, "A"), Locals: locals(), Result: ty("void")}
	static, super := scope, scope
	static.Static, super.InSuperArgs = true, true
	inB, inC, inD, inI := scope, scope, scope, scope
	inB.Class, inC.Class, inD.Class, inI.Class = index(l, "B"), index(l, "C"), index(l, "D"), index(l, "I")
	const scopeE, typeE = api.ErrScope, api.ErrExprType
	for s, want := range map[string]any{
		"1": "int", "1L": "long", `"x"`: "lang/String", "null": "null", "this": "A", "i": "int", "zz": scopeE, "aaa": "A[][]",
		"A . s": "A", "B . s": "A", "A . ps": "int", "A . x": scopeE, "A . none": scopeE, "Nowhere . x": scopeE, "a . x": "int", "b . x": "int", "a . s": scopeE, "a . p": "long", "b . p": "long", "a . none": scopeE, "i . x": typeE, "aa . x": scopeE, "null . x": scopeE,
		"ai [ i ]": "int", "aaa [ 0 ]": "A[]", "aaa [ 0 ] [ 1 ]": "A", "a [ 0 ]": typeE, "ai [ l ]": typeE, "null [ 0 ]": typeE, "o [ 0 ]": typeE, "len ( ai )": "int", "len ( o )": typeE, "len ( zz )": scopeE, "new A [ i ]": "A[]", "new int [ ] [ i ]": "int[][]", "new Nowhere [ l ]": scopeE, "new A [ l ]": typeE,
		"a . f ( i , b )": "int", "a . f ( i , a )": "int", "b . f ( i , null )": "int", "a . f ( i , o )": typeE, "a . f ( l , a )": typeE, "a . f ( i )": scopeE, "a . v ( )": "void", "a . priv ( )": "int", "b . priv ( )": "int", "a . st ( l )": scopeE, "A . st ( l )": "long", "B . st ( l )": "long", "A . st ( i )": typeE, "A . v ( )": scopeE, "i . v ( )": typeE, "a . none ( )": scopeE, "aa . wait ( )": "void", "aa . v ( )": scopeE, "null . notify ( )": "void", "k . k ( )": "void", "k . wait ( )": "void", "a . i ( 1 )": "int", "b . arr ( )": "A[]", "s . length ( )": "int", "s . at ( i )": "int", "lang::Console . printInt ( i )": "void", "a . f ( a . v ( ) , a )": typeE, "a . f ( zz , l )": scopeE,
		"new A ( )": "A", "new A ( 1 )": scopeE, "new B ( 1 )": "B", "new B ( )": scopeE, "new B ( l )": typeE, "new C ( )": typeE, "new I ( )": typeE, "new Nowhere ( )": scopeE, "new D ( 1 )": scopeE, "new lang::Object ( )": "lang/Object", "new lang::String ( )": scopeE, "new lang::Reference ( null )": typeE, "new lang::WeakReference ( a )": "lang/WeakReference", "new X ( )": "X",
		"- i": "int", "- l": "long", "- a": typeE, "! i": "int", "! l": typeE, "i + i": "int", "l * l": "long", "i + l": typeE, "1 + 2": "int", "1 + 2L": typeE, "a + a": typeE, "i < i": "int", "l >= l": "int", "a < a": typeE, "i & i": "int", "l & l": typeE, "i << i": "int", "l >>> l": typeE, "i && i": "int", "l || l": typeE, "i == i": "int", "l != l": "int", "i == l": typeE, "a == b": "int", "b == a": "int", "a == d": typeE, "a == null": "int", "null == null": "int", "a == o": "int", "ai == o": "int", "ai == aa": typeE, "a . v ( ) == a . v ( )": typeE, "i == a": typeE, "i % i": "int", "aaa == ao": "int",
		"a as B": "B", "b as A": "A", "a as D": typeE, "k as D": "D", "d as K": "K", "d is K": "int", "a is Nowhere": scopeE, "i as A": typeE, "a as int": typeE, "null as A": "A", "o as int [ ]": "int[]", "ai as A": typeE, "ai as lang::Object": "lang/Object", "aa as B [ ]": "B[]", "aa as D [ ]": typeE, "aa as K [ ]": typeE, "k as A [ ]": "A[]", "ai as K": "K", "null is B": "int", "int ( l )": "int", "int ( i )": typeE, "long ( i )": "long", "long ( l )": typeE, "long ( zz )": scopeE,
		"super . wait ( )": "void", "super . i ( 1 )": scopeE, "super . v ( )": scopeE,
	} {
		e, _, err := parse.ParseExpr(s)
		if err != api.OK {
			t.Fatal(s, err)
		}
		got, err := TypeOf(scope, e)
		if name, ok := want.(string); ok && (err != api.OK || got != ty(name)) || !ok && (err != want || got != api.Type{}) {
			t.Errorf("%s: %v %d, want %v", s, got, err, want)
		}
	}
	for k, x := range []struct {
		s    api.Scope
		e    string
		want any
	}{{static, "this", scopeE}, {super, "this", scopeE}, {super, "super . wait ( )", scopeE}, {static, "super . wait ( )", scopeE}, {inB, "super . v ( )", "void"}, {inB, "super . i ( 1 )", "int"}, {inB, "super . priv ( )", scopeE}, {inB, "super . st ( 1L )", scopeE}, {inB, "super . f ( zz )", scopeE}, {inB, "super . f ( l , l )", typeE}, {inC, "super . i ( 1 )", "int"}, {inC, "super . k ( )", scopeE}, {inC, "super . j ( )", "int"}, {inI, "super . wait ( )", scopeE}, {inI, "this . j ( )", "int"}, {inB, "b . p", scopeE}, {inB, "new B ( )", "B"}, {inD, "new D ( 1 )", "D"}, {inB, "a . priv ( )", scopeE}, {inB, "A . ps", scopeE}} {
		e, _, _ := parse.ParseExpr(x.e)
		got, err := TypeOf(x.s, e)
		if name, ok := x.want.(string); ok && (err != api.OK || got != ty(name)) || !ok && err != x.want {
			t.Errorf("case %d: %s: %v %d", k, x.e, got, err)
		}
	}
	for _, class := range []int{-1, len(l)} {
		bad := scope
		bad.Class = class
		if _, e := TypeOf(bad, api.Expr{Kind: api.EInt}); e != api.ErrScope {
			t.Error(e)
		}
		if _, e := TypeOf(bad, api.Expr{}); e != api.ErrMalformed {
			t.Error(e)
		}
	}
}

func TestSuperConflicts(t *testing.T) { // P56.3
	l := source(t, `interface P { public void m ( ) { } public abstract void n ( ) ; } interface Q { public void m ( ) { } } interface R extends P { public void m ( ) { } }
abstract class S extends lang::Object implements P , Q { } abstract class T extends lang::Object implements P , R { } class U extends S { public void m ( ) { } public void n ( ) { } } class V extends T { public void n ( ) { } }`)
	for _, x := range []struct {
		class, s string
		e        api.Errno
	}{{"U", "super . m ( )", api.ErrScope}, {"U", "super . n ( )", api.ErrScope}, {"V", "super . m ( )", api.OK}, {"V", "super . n ( )", api.ErrScope}} {
		e, _, _ := parse.ParseExpr(x.s)
		if _, err := TypeOf(api.Scope{Decls: l, Class: index(l, x.class)}, e); err != x.e {
			t.Error(x, err)
		}
	}
}

func TestLookups(t *testing.T) { // P56.2, P56.5
	l := decls(t)
	if s := Superclasses(l, "C"); !slices.Equal(s, []string{"C", "B", "A", "lang/Object"}) || len(Superclasses(l, "Nowhere")) != 0 {
		t.Error(s)
	}
	circle := []api.ClassDecl{{Name: "A", Super: "B"}, {Name: "B", Super: "A", Interfaces: []string{"A", "Z"}}, {Name: "A", Super: "lang/Object"}}
	if s := Superclasses(circle, "A"); !slices.Equal(s, []string{"A", "B"}) {
		t.Error(s)
	}
	if c, f, ok := FindField(l, "B", "p"); !ok || c != "A" || f.Type != ty("long") {
		t.Error(c, f, ok)
	}
	if c, f, ok := FindField(l, "lang/WeakReference", "cleared"); !ok || c != "lang/Reference" || f.Flags != api.Public {
		t.Error(c, f, ok)
	}
	if c, f, ok := FindField(l, "B", "none"); ok || c != "" || f != (api.FieldDecl{}) {
		t.Error(c, f, ok)
	}
	for _, x := range []struct {
		class, s string
		n        int
		owner    string
	}{{"C", "i", 1, "K"}, {"C", "ka", 0, "K"}, {"B", "v", 0, "A"}, {"K", "wait", 0, "lang/Object"}, {"B", "<init>", 1, "B"}, {"C", "<init>", 1, ""}, {"A", "<init>", 0, ""}, {"lang/Thread", "<init>", 0, "lang/Thread"}, {"B", "v", 1, ""}, {"Nowhere", "v", 0, ""}, {"lang/String", "at", 1, "lang/String"}} {
		c, m, ok := FindMethod(l, x.class, x.s, x.n)
		if ok != (x.owner != "") || c != x.owner || ok && (m.Name != x.s || len(m.Params) != x.n || !m.HasBody && x.s != "ka") || !ok && !reflect.DeepEqual(m, api.MethodDecl{}) {
			t.Error(x, c, m, ok)
		}
	}
	if _, m, _ := FindMethod(l, "lang/String", "at", 1); m.Flags != api.Native|api.Public || m.Params[0] != (api.Param{Type: ty("int")}) || len(m.Body) != 0 {
		t.Error(m)
	}
	types := strings.Fields("int long void null lang/Object lang/Object[] A B I J K A[] B[] I[] A[][] int[] int[][] Nowhere Nowhere[] lang/String")
	want := map[string]string{"null": "lang/Object lang/Object[] A B I J K A[] B[] I[] A[][] int[] int[][] Nowhere Nowhere[] lang/String", "lang/Object[]": "lang/Object", "A": "lang/Object I J", "B": "lang/Object A I J", "I": "lang/Object", "J": "I lang/Object", "K": "lang/Object", "A[]": "lang/Object lang/Object[] I[]", "B[]": "lang/Object lang/Object[] A[] I[]", "I[]": "lang/Object lang/Object[]", "A[][]": "lang/Object lang/Object[]", "int[]": "lang/Object", "int[][]": "lang/Object lang/Object[]", "Nowhere": "lang/Object", "Nowhere[]": "lang/Object", "lang/String": "lang/Object"}
	for _, a := range types {
		for _, b := range types {
			got := Assignable(l, ty(a), ty(b))
			if got != (a == b || slices.Contains(strings.Fields(want[a]), b)) {
				t.Error(a, b, got)
			}
			for _, c := range types {
				if got && Assignable(l, ty(b), ty(c)) && !Assignable(l, ty(a), ty(c)) && !strings.HasPrefix(a, "Nowhere") {
					t.Error("transitivity", a, b, c)
				}
			}
		}
	}
}

func TestStatements(t *testing.T) { // P56.4
	l := decls(t)
	void := api.Scope{Decls: l, Class: index(l, "B"), Locals: locals(), Result: ty("void")}
	number, static := void, void
	number.Result = ty("int")
	static.Static = true
	const scopeE, typeE, more = api.ErrScope, api.ErrExprType, api.ErrIncomplete
	for s, want := range map[string]api.Errno{
		"A z = b ;": 0, "A z = o ;": typeE, "A a = zz ;": scopeE, "Nowhere z = zz ;": scopeE, "int z = 1L ;": typeE, "int z = zz ;": scopeE, "int z = a . v ( ) ;": typeE, "Nowhere [ ] z = null ;": scopeE, "lang::Object z = ai ;": 0,
		"i = 1 ;": 0, "i = l ;": typeE, "zz = 1 ;": scopeE, "zz = qq ;": scopeE, "a = null ;": 0, "a . x = 1 ;": 0, "A . s = b ;": 0, "A . s = o ;": typeE, "ai [ 0 ] = 1 ;": 0, "ai [ 0 ] = 1L ;": typeE, "aa [ 0 ] = o ;": typeE, "a . x = zz ;": scopeE,
		"a . v ( ) ;": 0, "a . none ( ) ;": scopeE, "if ( i ) { }": 0, "if ( l ) { zz = 1 ; }": typeE, "if ( i ) { zz = 1 ; } else { i = l ; }": scopeE, "if ( i ) { } else { i = l ; }": typeE, "while ( a ) { }": typeE, "while ( i ) { int z = 1 ; z = 2 ; }": 0, "{ int z = 1 ; } ": 0, "{ int z = 1 ; int z = 2 ; }": scopeE, "{ { int z = 1 ; } z = 2 ; }": scopeE, "{ { int z = 1 ; } int z = 2 ; }": 0,
		"return ;": 0, "return 1 ;": typeE, "return zz ;": scopeE, "throw x ;": 0, "throw a ;": typeE, "throw null ;": 0, "throw zz ;": scopeE,
		"try { } catch ( X e ) { throw e ; }": 0, "try { } catch ( A e ) { }": typeE, "try { } catch ( X a ) { }": scopeE, "try { } catch ( Nowhere e ) { }": scopeE, "try { e = 1 ; } catch ( X e ) { }": scopeE, "try { i = l ; } catch ( X e ) { zz = 1 ; }": typeE, "try { } catch ( X [ ] e ) { }": typeE, "try { } catch ( lang::Error e ) { int e = 1 ; }": scopeE, "try { } catch ( int e ) { }": typeE,
		"sync ( a ) { }": 0, "sync ( i ) { }": typeE, "sync ( null ) { zz = 1 ; }": scopeE, "{ return ; zz = 1 ; }": more, "{ { return ; } i = 1 ; }": more, "{ if ( i ) { return ; } else { throw x ; } i = 1 ; }": more, "{ if ( i ) { return ; } i = 1 ; }": 0, "{ while ( 1 ) { return ; } i = 1 ; }": 0, "{ sync ( a ) { return ; } i = 1 ; }": more, "{ try { return ; } catch ( X e ) { return ; } i = 1 ; }": more, "{ try { return ; } catch ( X e ) { } i = 1 ; }": 0, "{ zz = 1 ; return ; i = 1 ; }": scopeE,
	} {
		b, _, err := parse.ParseBlock(s)
		if err != api.OK || len(b) != 1 {
			t.Fatal(s, err)
		}
		after, e := CheckStmt(void, b[0])
		if e != want {
			t.Errorf("%s: %d, want %d", s, e, want)
		}
		expected := void
		if e == api.OK && b[0].Kind == api.SLocal {
			expected.Locals = append(slices.Clip(void.Locals), api.Param{Type: b[0].Type, Name: b[0].Name})
		}
		if !reflect.DeepEqual(after, expected) {
			t.Error(s, after.Locals)
		}
	}
	for s, want := range map[string]api.Errno{"return ;": typeE, "return 1 ;": 0, "return 1L ;": typeE, "return zz ;": scopeE} {
		b, _, _ := parse.ParseBlock(s)
		if _, e := CheckStmt(number, b[0]); e != want {
			t.Error(s, e)
		}
	}
	this := api.Expr{Kind: api.EThis}
	one := api.Expr{Kind: api.EInt, N: 1}
	for k, x := range []struct {
		s    api.Scope
		args []api.Expr
		e    api.Errno
	}{{void, nil, api.OK}, {void, []api.Expr{one}, scopeE}, {void, []api.Expr{this}, scopeE}, {static, nil, scopeE}} {
		if _, e := CheckStmt(x.s, api.Stmt{Kind: api.SSuper, Expr: api.Expr{Args: x.args}}); e != x.e {
			t.Error(k, e)
		}
	}
	inC := void
	inC.Class = index(l, "C")
	for k, x := range []struct {
		args []api.Expr
		e    api.Errno
	}{{nil, scopeE}, {[]api.Expr{one}, api.OK}, {[]api.Expr{{Kind: api.ELong}}, typeE}} {
		if _, e := CheckStmt(inC, api.Stmt{Kind: api.SSuper, Expr: api.Expr{Args: x.args}}); e != x.e {
			t.Error(k, e)
		}
	}
	bad := void
	bad.Class = -1
	if s, e := CheckStmt(bad, api.Stmt{Kind: api.SReturn}); e != api.ErrScope || s.Class != -1 {
		t.Error(e)
	}
	if _, e := CheckStmt(bad, api.Stmt{}); e != api.ErrMalformed {
		t.Error(e)
	}
	for s, want := range map[string]bool{"": false, "return ;": true, "throw x ;": true, "{ }": false, "{ return ; }": true, "sync ( a ) { throw x ; }": true, "while ( 1 ) { return ; }": false, "if ( i ) { return ; }": false, "if ( i ) { return ; } else { return ; }": true, "try { return ; } catch ( X e ) { throw e ; }": true, "try { return ; } catch ( X e ) { }": false, "i = 1 ;": false} {
		b, _, _ := parse.ParseBlock(s)
		if Terminates(b) != want {
			t.Error(s)
		}
	}
}

func TestPrograms(t *testing.T) { // P56.1, P56.5
	object := " extends lang::Object "
	for k, x := range []struct {
		s, class, member string
		e                api.Errno
	}{
		{"class A" + object + "{ int f ( int a ) { return a + 1 ; } }", "", "", api.OK}, {"class A" + object + "{ int f ( int a ) { } }", "A", "f", api.ErrIncomplete}, {"", "", "", api.OK},
		{"class lang::A" + object + "{ }", "lang/A", "", api.ErrScope}, {"class A extends Z { }", "A", "", api.ErrScope}, {"class A" + object + "implements Z { }", "A", "", api.ErrScope}, {"class A" + object + "{ int x ; Z y ; }", "A", "y", api.ErrScope}, {"class A" + object + "{ void g ( ) { } void f ( Z [ ] a ) { } }", "A", "f", api.ErrScope}, {"class A" + object + "{ Z f ( ) { return null ; } Z x ; }", "A", "x", api.ErrScope},
		{"class A extends B { } class B extends A { }", "A", "", api.ErrCircularity}, {"class A extends A { }", "A", "", api.ErrCircularity}, {"interface I extends J { } interface J extends I { }", "I", "", api.ErrCircularity}, {"class C extends A { } class A extends B { } class B extends A { }", "A", "", api.ErrCircularity}, {"class A extends lang::String { } class B extends B { }", "B", "", api.ErrCircularity},
		{"class A extends lang::String { }", "A", "", api.ErrBadSuper}, {"interface I { } class A extends I { }", "A", "", api.ErrBadSuper}, {"class A" + object + "implements B { } class B" + object + "{ }", "A", "", api.ErrBadSuper}, {"interface I extends B { } class B" + object + "{ }", "I", "", api.ErrBadSuper},
		{"class A" + object + "{ int x ; } class B extends A { long x ; }", "B", "x", api.ErrExprType}, {"class A" + object + "{ private int x ; } class B extends A { int x ; }", "B", "x", api.ErrExprType}, {"class A extends lang::WeakReference { int cleared ; new ( ) { super ( null ) ; } }", "A", "cleared", api.ErrExprType}, {"class A" + object + "{ int f ( ) { return 1 ; } } class B extends A { long f ( ) { return 1L ; } }", "B", "f", api.ErrExprType}, {"class A" + object + "{ void f ( int a ) { } } class B extends A { void f ( long a ) { } }", "B", "f", api.ErrExprType}, {"class A" + object + "{ void f ( int a ) { } } class B extends A { void f ( ) { } }", "", "", api.OK}, {"class A" + object + "{ private void f ( int a ) { } } class B extends A { long f ( long a ) { return a ; } }", "", "", api.OK}, {"class A" + object + "{ void f ( ) { } } class B extends A { static void f ( ) { } }", "B", "f", api.ErrExprType}, {"class A" + object + "{ static void f ( ) { } } class B extends A { static void f ( ) { } }", "", "", api.OK},
		{"class A" + object + "{ public void f ( ) { } } class B extends A { protected void f ( ) { } }", "B", "f", api.ErrExprType}, {"class A" + object + "{ protected void f ( ) { } } class B extends A { void f ( ) { } }", "B", "f", api.ErrExprType}, {"class A" + object + "{ void f ( ) { } } class B extends A { private void f ( ) { } }", "B", "f", api.ErrExprType}, {"class A" + object + "{ void f ( ) { } } class B extends A { public void f ( ) { } }", "", "", api.OK}, {"class A" + object + "{ final void f ( ) { } } class B extends A { void f ( ) { } }", "B", "f", api.ErrExprType}, {"class A" + object + "{ public void wait ( ) { } }", "A", "wait", api.ErrExprType}, {"class A" + object + "{ private void wait ( int a ) { } }", "", "", api.OK}, {"interface I { public void notify ( ) { } }", "I", "notify", api.ErrExprType}, {"interface I { public void f ( ) { } } class A" + object + "implements I { void f ( ) { } }", "A", "f", api.ErrExprType}, {"interface I { public void f ( ) { } } interface J extends I { public int f ( ) { return 1 ; } }", "J", "f", api.ErrExprType},
		{"class A" + object + "{ abstract void f ( ) ; }", "A", "f", api.ErrIncomplete}, {"abstract class A" + object + "{ abstract void f ( ) ; } class B extends A { }", "B", "f", api.ErrIncomplete}, {"abstract class A" + object + "{ abstract void f ( ) ; abstract void g ( ) ; } class B extends A { void f ( ) { } }", "B", "g", api.ErrIncomplete}, {"interface I { public abstract void f ( ) ; } class A" + object + "implements I { }", "A", "f", api.ErrIncomplete}, {"interface I { public void f ( ) { } } class A" + object + "implements I { }", "", "", api.OK}, {"interface I { public void f ( ) { } } interface J { public void f ( ) { } } class A" + object + "implements I , J { }", "A", "f", api.ErrIncomplete}, {"interface I { public void f ( ) { } } interface J extends I { public void f ( ) { } } class A" + object + "implements I , J { }", "", "", api.OK}, {"interface I { public void f ( ) { } } interface J extends I { public abstract void f ( ) ; } class A" + object + "implements I , J { }", "A", "f", api.ErrIncomplete}, {"interface I { public void f ( ) { } } class P" + object + "{ private void f ( ) { } } class A extends P implements I { }", "A", "f", api.ErrIncomplete}, {"interface I { public int f ( ) { return 1 ; } } class P" + object + "{ public long f ( ) { return 1L ; } } class A extends P implements I { }", "A", "f", api.ErrIncomplete}, {"interface I { public int f ( ) { return 1 ; } } class P" + object + "{ public static int f ( ) { return 1 ; } } class A extends P implements I { }", "A", "f", api.ErrIncomplete}, {"abstract class A" + object + "{ abstract void f ( ) ; } class B extends A { int f ( int a ) { return zz ; } void f ( ) { } }", "B", "f", api.ErrScope},
		{"class A" + object + "{ void f ( int a , int a ) { } }", "A", "f", api.ErrScope}, {"class A" + object + "{ new ( int a ) { } } class B extends A { new ( ) { } }", "B", "<init>", api.ErrScope}, {"class A" + object + "{ new ( int a ) { } } class B extends A { }", "B", "<init>", api.ErrScope}, {"class A" + object + "{ new ( int a ) { } } class B extends A { new ( ) { super ( 1 ) ; } }", "", "", api.OK}, {"class A" + object + "{ private new ( ) { } } class B extends A { }", "B", "<init>", api.ErrScope}, {"class A" + object + "{ new ( int a ) { super ( a ) ; } }", "A", "<init>", api.ErrScope}, {"class A" + object + "{ int x ; static { x = 1 ; } }", "A", "<clinit>", api.ErrScope}, {"class A" + object + "{ static { return 1 ; } }", "A", "<clinit>", api.ErrExprType}, {"class A" + object + "{ static { A x = this ; } }", "A", "<clinit>", api.ErrScope}, {"class A" + object + "{ static { return ; } int f ( ) { } }", "A", "f", api.ErrIncomplete}, {"class A" + object + "{ static { zz = 1 ; } } class B" + object + "{ void f ( ) { return 1 ; } }", "A", "<clinit>", api.ErrScope}, {"class A" + object + "{ static void f ( ) { this . f ( ) ; } }", "A", "f", api.ErrScope}, {"class A" + object + "{ new ( ) { return ; } int f ( int a ) { a = 1 ; return a ; } }", "", "", api.OK}, {"class A" + object + "{ new ( ) { return 1 ; } }", "A", "<init>", api.ErrExprType},
	} {
		l := source(t, x.s)
		if c, m, e := Check(l); c != x.class || m != x.member || e != x.e {
			t.Errorf("case %d: %s: %q %q %d", k, x.s, c, m, e)
		}
		slices.Reverse(l)
		if _, _, e := Check(l); (e == api.OK) != (x.e == api.OK) {
			t.Error("reversed", k, e)
		}
		if _, _, e := Check(append(l, source(t, "class Extra extends lang::Object { }")...)); (e == api.OK) != (x.e == api.OK) {
			t.Error("one more class", k, e)
		}
	}
	if c, m, e := Check([]api.ClassDecl{{Name: "A", Super: "lang/Object"}, {Name: "b"}}); c != "b" || m != "" || e != api.ErrMalformed {
		t.Error(c, m, e)
	}
	if c, m, e := Check(decls(t)); e != api.OK {
		t.Error(c, m, e)
	}
}
