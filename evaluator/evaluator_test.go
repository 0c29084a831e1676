package evaluator_test

import (
	"armature/api"
	"armature/codegen"
	"armature/evaluator"
	"armature/machine"
	"armature/parse"
	"armature/sample"
	"reflect"
	"slices"
	"strconv"
	"strings"
	"testing"
)

func source(t *testing.T, s string) []api.ClassDecl {
	t.Helper()
	l, at, e := parse.ParseProgram(s)
	if e != api.OK {
		t.Fatal(s[max(0, at-40):], at, e)
	}
	return l
}

func evaluate(t *testing.T, l []api.ClassDecl) api.Outcome {
	t.Helper()
	o, e := evaluator.Run(l, "M", 1<<40)
	if e != api.OK {
		t.Fatal(e)
	}
	return o
}

func TestProgramsEndAsCompiled(t *testing.T) { // P9, P58.2, P58.3, P58.4, P58.5, P58.6
	for k, s := range sample.Programs() {
		l := source(t, s)
		o := evaluate(t, l)
		store, e := codegen.CompileStore(l)
		if e != api.OK {
			t.Fatal(k, e)
		}
		m, e := machine.New([]api.Loader{{Store: store}}, 5000)
		if e != api.OK {
			t.Fatal(k, e)
		}
		m, _, e = machine.StartMain(m, 0, "M")
		if e != api.OK {
			t.Fatal(k, e)
		}
		m, _, e = machine.RunThread(m, 0, 100000)
		status := "done"
		if o.Exception != "" {
			status = "thrown " + o.Exception
		}
		if e != api.OK || !slices.Equal(m.Output, o.Output) || machine.ThreadStatus(m)[0] != status {
			t.Errorf("program %d: %q %q\n%q %q %d", k, o.Output, o.Exception, m.Output, machine.ThreadStatus(m), e)
		}
	}
}

const main = "class M extends lang::Object { public static void main ( ) { "

func TestSteps(t *testing.T) { // P58.2, P58.7
	for s, want := range map[string]int{
		"": 0, "return ;": 1, "int a = 1 ;": 2, "int a = 1 ; a = a + 2 ;": 6, "lang::Console . printInt ( 1 ) ;": 3, "if ( 0 ) { return ; }": 2, "if ( 1 ) { return ; }": 3, "while ( 0 ) { }": 2, "{ }": 1, "{ { } }": 2, "int i = 2 ; while ( i ) { i = i - 1 ; }": 14, "int a = 0 && 1 ;": 3, "int a = 1 && 1 ;": 4, "int a = 1 || 1 ;": 3, "int [ ] a = new int [ 2 ] ; a [ 0 ] = 1 ;": 7, "M m = new M ( ) ;": 2, "try { } catch ( lang::Error e ) { }": 1, "try { throw new lang::Error ( ) ; } catch ( lang::Error e ) { return ; }": 4, "sync ( \"a\" ) { return ; }": 3, "int a = ! 1 ;": 3, "lang::Object o = null ; int b = o is M ;": 5, "int a = len ( new M [ 0 ] ) ;": 4,
	} {
		l := source(t, main+s+" } }")
		o := evaluate(t, l)
		if o.Steps != want || o.Exception != "" {
			t.Error(s, o.Steps, o.Exception)
		}
		for fuel := -1; fuel <= want+1; fuel++ {
			p, e := evaluator.Run(l, "M", fuel)
			if fuel >= want && (e != api.OK || !slices.Equal(p.Output, o.Output) || p.Steps != want) || fuel < want && (e != api.ErrOutOfFuel || p.Steps != 0 || p.Output != nil) {
				if want > 0 || fuel >= 0 {
					t.Error(s, fuel, p, e)
				}
			}
		}
	}
	l := source(t, "class M extends lang::Object { int x ; static int y ; static { M . y = 1 ; } new ( int a ) { super ( ) ; this . x = a ; } int get ( ) { return this . x ; } public static void main ( ) { M m = new M ( 1 ) ; int a = m . get ( ) + M . y ; m . x = 2 ; } }")
	if o := evaluate(t, l); o.Steps != 20 {
		t.Error(o.Steps)
	}
}

func TestErrors(t *testing.T) { // P58.2
	for s, want := range map[string]api.Errno{
		"class M extends lang::Object { }": api.ErrNoMethod, "class N extends lang::Object { public static void main ( ) { } }": api.ErrNoMethod, "class M extends lang::Object { static void main ( ) { } }": api.ErrNoMethod, "class M extends lang::Object { public void main ( ) { } }": api.ErrNoMethod, "class M extends lang::Object { public static int main ( ) { return 1 ; } }": api.ErrNoMethod, "class M extends lang::Object { public static void main ( int a ) { } }": api.ErrNoMethod, "class P extends lang::Object { public static void main ( ) { } } class M extends P { }": api.ErrNoMethod, "class M extends Z { }": api.ErrScope, main + "int a = b ; } }": api.ErrScope,
		main + "M m = new M ( ) ; m . notify ( ) ; } }": api.ErrNoNative, main + "M m = null ; m . wait ( ) ; } }": api.OK, main + "new lang::Thread ( ) . start ( ) ; } }": api.ErrNoNative, main + "new lang::Thread ( ) . run ( ) ; } }": api.OK,
	} {
		o, e := evaluator.Run(source(t, s), "M", 1000)
		if e != want || e != api.OK && (o.Output != nil || o.Steps != 0 || o.Exception != "") {
			t.Error(s, o, e)
		}
	}
	if _, e := evaluator.Run(nil, "lang/Object", 10); e != api.ErrNoMethod {
		t.Error(e)
	}
	for n, want := range map[string]api.Errno{"22": api.OK, "23": api.ErrTooDeep} {
		for _, s := range []string{
			"class M extends lang::Object { static void f ( int n ) { if ( n ) { M . f ( n - 1 ) ; } } public static void main ( ) { M . f ( " + n + " ) ; } }",
			"class M extends lang::Object { M next ; new ( int n ) { if ( n ) { this . next = new M ( n - 1 ) ; } } public static void main ( ) { new M ( " + n + " ) ; } }",
		} {
			if _, e := evaluator.Run(source(t, s), "M", 1000); e != want {
				t.Error(n, e)
			}
		}
	}
	chain := "class C0 extends lang::Object { } "
	for i := 1; i < 24; i++ {
		chain += "class C" + strconv.Itoa(i) + " extends C" + strconv.Itoa(i-1) + " { } "
	}
	for n, want := range map[string]api.Errno{"22": api.OK, "23": api.ErrTooDeep} {
		if _, e := evaluator.Run(source(t, chain+main+"new C"+n+" ( ) ; } }"), "M", 1000); e != want {
			t.Error(n, e)
		}
	}
}

func TestCallsAfterExceptions(t *testing.T) { // P58.2, P58.4
	s := "class M extends lang::Object { static void f ( int n ) { if ( n ) { M . f ( n - 1 ) ; } throw new lang::Error ( ) ; } static void g ( ) { try { M . f ( 20 ) ; } catch ( lang::Error e ) { lang::Console . printInt ( 1 ) ; } } public static void main ( ) { M . g ( ) ; M . g ( ) ; int i = 0 ; while ( i < 30 ) { try { int z = 1 / 0 ; } catch ( lang::ArithmeticException e ) { i = i + 1 ; } } M . f ( 22 ) ; } }"
	if o := evaluate(t, source(t, s)); !slices.Equal(o.Output, []string{"1", "1"}) || o.Exception != "lang/Error" {
		t.Error(o)
	}
}

func TestLaws(t *testing.T) { // P58.7
	for k, s := range sample.Programs() {
		l := source(t, s)
		o := evaluate(t, l)
		extra := evaluate(t, append(source(t, "class Zextra extends lang::Object { static int v ; static { lang::Console . printInt ( 12345 ) ; } }"), l...))
		exact, e := evaluator.Run(l, "M", o.Steps)
		if e != api.OK || !reflect.DeepEqual(o, extra) || !reflect.DeepEqual(o, exact) {
			t.Error(k, e)
		}
		if _, e := evaluator.Run(l, "M", o.Steps-1); e != api.ErrOutOfFuel {
			t.Error(k, e)
		}
	}
	a := evaluate(t, source(t, main+"int a = 3 ; { int b = a + 1 ; lang::Console . printInt ( b * a ) ; } } }"))
	b := evaluate(t, source(t, main+"int x = 3 ; { int a = x + 1 ; lang::Console . printInt ( a * x ) ; } } }"))
	if !reflect.DeepEqual(a, b) {
		t.Error(a, b)
	}
}

func TestEvalConstant(t *testing.T) { // P58.1, P58.7
	for s, want := range map[string]int{
		"7 / 2": 3, "2147483647 + 1": -1 << 31, "- 7 / 2": -3, "- 7 % 2": -1, "1 << 33": 2, "- 1 >>> 28": 15, "- 8 >> 1": -4, "6 & 3": 2, "6 | 3": 7, "6 ^ 3": 5, "! 0": 1, "! 5": 0, "5 && 3": 1, "0 && 1 / 0": 0, "3 || 1 / 0": 1, "0 || 0": 0, "1 < 2": 1, "2 <= 1": 0, "1 == 1": 1, "1 != 1": 0, "3 > 2": 1, "3 >= 4": 0, "9223372036854775807L + 1L": -1 << 63, "2L * 3L": 6, "int ( 4294967297L )": 1, "long ( 5 ) - 7L": -2, "1L < 2L": 1, "5000000000L == 705032704L": 0, "- 5L": -5, "7L % 4L": 3,
	} {
		x, _, e := parse.ParseExpr(s)
		if e != api.OK {
			t.Fatal(s, e)
		}
		if n, e := evaluator.EvalConstant(x); n != want || e != api.OK {
			t.Error(s, n, e)
		}
		print := "printInt"
		if strings.Contains(s, "L") && !strings.ContainsAny(s, "<=(") || strings.HasPrefix(s, "long") {
			print = "printLong"
		}
		if o := evaluate(t, source(t, main+"lang::Console . "+print+" ( "+s+" ) ; } }")); o.Output[0] != strconv.Itoa(want) {
			t.Error(s, o)
		}
	}
	for s, want := range map[string]api.Errno{"1 / 0": api.ErrDivideByZero, "1L % ( 2L - 2L )": api.ErrDivideByZero, "1 && 1 / 0": api.ErrDivideByZero, "1 + 1L": api.ErrExprType, "a": api.ErrExprType, "null == null": api.ErrExprType, "\"s\" is lang::Object": api.ErrExprType, "! 1L": api.ErrExprType, "int ( 1 )": api.ErrExprType, "1L & 1L": api.ErrExprType, "1 + a": api.ErrExprType, "1 / 0 + 1L": api.ErrExprType, "len ( null )": api.ErrExprType} {
		x, _, _ := parse.ParseExpr(s)
		if n, e := evaluator.EvalConstant(x); n != 0 || e != want {
			t.Error(s, n, e)
		}
	}
	for _, x := range []api.Expr{{}, {Kind: api.EInt, N: -1}, {Kind: api.EBinary, S: "+"}} {
		if n, e := evaluator.EvalConstant(x); n != 0 || e != api.ErrExprType {
			t.Error(x, n, e)
		}
	}
}
