package codegen_test

import (
	"armature/api"
	"armature/builtin"
	"armature/classmodel"
	"armature/classverify"
	"armature/codegen"
	"armature/file"
	"armature/link"
	"armature/load"
	"armature/loaderview"
	"armature/machine"
	"armature/parse"
	"armature/sample"
	"slices"
	"strconv"
	"strings"
	"testing"
)

func source(t *testing.T, s string) []api.ClassDecl {
	t.Helper()
	l, at, e := parse.ParseProgram(s)
	if e != api.OK {
		t.Fatal(s, at, e)
	}
	return l
}

func TestShape(t *testing.T) { // P57.1, P57.2
	models, e := codegen.Compile(source(t, `interface I { public abstract void f ( int a ) ; public long g ( ) { return 1L ; } }
abstract class p::A extends lang::Object implements I { protected static int x ; private final p::A [ ] y ; final long z ; private new ( int a ) { } protected new ( ) { } abstract int h ( long a , lang::String b ) ; final sync void s ( ) { } static { p::A . x = 1 ; } protected static void t ( ) { } private void u ( ) { } }
final class B extends p::A { public void f ( int a ) { } int h ( long a , lang::String b ) { return 1 ; } }`))
	if e != api.OK || len(models) != 3 {
		t.Fatal(e)
	}
	i, a, b := models[0], models[1], models[2]
	if i.Flags != api.Interface|api.Abstract|api.Public || i.Name != "I" || i.Super != "lang/Object" || len(i.Methods) != 2 || i.Methods[0].HasCode || !i.Methods[1].HasCode || i.Methods[0].Flags != api.Public|api.Abstract || i.Methods[1].Flags != api.Public {
		t.Errorf("%+v", i)
	}
	if a.Flags != api.Public|api.Abstract || a.Name != "p/A" || !slices.Equal(a.Interfaces, []string{"I"}) || a.Source != "" {
		t.Errorf("%+v", a)
	}
	wantFields := []api.Field{{Flags: api.Public | api.Static, Name: "x", Desc: "I"}, {Flags: api.Private | api.Final, Name: "y", Desc: "[Lp/A;"}, {Flags: api.Public | api.Final, Name: "z", Desc: "J"}}
	if !slices.Equal(a.Fields, wantFields) {
		t.Error(a.Fields)
	}
	var got []string
	for _, m := range slices.Concat(a.Methods, b.Methods) {
		got = append(got, m.Name+m.Desc+" "+strconv.Itoa(m.Flags))
		if len(m.Exceptions) > 0 || m.HasCode != (m.Flags&api.Abstract == 0) {
			t.Error(m)
		}
	}
	want := "<init>(I)V 2, <init>()V 1, h(JLlang/String;)I 1025, s()V 49, t()V 9, u()V 2, <clinit>()V 8, f(I)V 1, h(JLlang/String;)I 1, <init>()V 1"
	if strings.Join(got, ", ") != want {
		t.Error(got)
	}
	l := source(t, "class A extends lang::Object { }")
	u, e := codegen.CompileClass(l, 0)
	if e != api.OK || len(u.Methods) != 1 || u.Methods[0].Name != "<init>" || u.Methods[0].Flags != api.Public {
		t.Error(u, e)
	}
	for _, k := range []int{-1, 1} {
		if u, e := codegen.CompileClass(l, k); e != api.ErrRange || u.Name != "" {
			t.Error(k, e)
		}
	}
	if l, e := codegen.Compile(nil); e != api.OK || len(l) != 0 {
		t.Error(l, e)
	}
}

func TestErrors(t *testing.T) { // P57.1, P57.2, P57.3
	var methods, block strings.Builder
	for i := range 64 {
		methods.WriteString("void f" + strconv.Itoa(i) + " ( ) { } ")
	}
	for i := range 32 {
		block.WriteString("int v" + strconv.Itoa(i) + " = 1 ; ")
	}
	for s, want := range map[string]api.Errno{
		"class A extends B { }": api.ErrScope, "class A extends lang::Object { int f ( ) { } }": api.ErrIncomplete, "class A extends lang::Object { int x ; int x ; }": api.ErrDuplicate, "class A extends lang::Object { " + methods.String() + "}": api.ErrTooMany, "class A extends lang::Object { new ( ) { } " + strings.TrimPrefix(methods.String(), "void f0 ( ) { } ") + "}": api.OK, "class A extends lang::Object { void f ( ) { " + block.String() + "} }": api.ErrTooMany, "class A extends lang::Object { static void f ( ) { " + block.String() + "} }": api.OK,
	} {
		l, at, e := parse.ParseProgram(s)
		if e == api.ErrDuplicate {
			l = []api.ClassDecl{{Name: "A", Super: "lang/Object", Fields: []api.FieldDecl{{Type: api.Type{Base: 'I'}, Name: "x"}, {Type: api.Type{Base: 'I'}, Name: "x"}}}}
		} else if e != api.OK {
			t.Fatal(s, at, e)
		}
		models, e1 := codegen.Compile(l)
		u, e2 := codegen.CompileClass(l, 7)
		store, e3 := codegen.CompileStore(l)
		if want == api.OK && (e1 != api.OK || e2 != api.ErrRange || e3 != api.OK) || want != api.OK && (e1 != want || e2 != want || e3 != want || models != nil || u.Name != "" || store != nil) {
			t.Errorf("%.60s: %d %d %d, want %d", s, e1, e2, e3, want)
		}
	}
}

func TestStore(t *testing.T) { // P57.3
	l := source(t, sample.Programs()[0])
	models, _ := codegen.Compile(l)
	store, e := codegen.CompileStore(l)
	if e != api.OK || len(store) != len(models) {
		t.Fatal(e)
	}
	for i, u := range models {
		f, e := classmodel.ToFile(u)
		s, e2 := file.Encode(f)
		if e != api.OK || e2 != api.OK || store[i].Name != u.Name || store[i].Bytes != s {
			t.Error(u.Name, e, e2)
		}
	}
}

func TestVerified(t *testing.T) { // P57.5, P9, P2
	for k, s := range sample.Programs() {
		l := source(t, s)
		store, e := codegen.CompileStore(l)
		if e != api.OK {
			t.Fatal(k, e)
		}
		w, e := builtin.NewClassSpace([]api.Loader{{Store: store}})
		if e != api.OK {
			t.Fatal(k, e)
		}
		for _, c := range l {
			var n int
			if w, n, e = load.Load(w, 0, c.Name); e != api.OK {
				t.Fatal(k, c.Name, e)
			}
			if w, e = link.Link(w, n); e != api.OK {
				t.Fatal(k, c.Name, e)
			}
			_, infos, e := loaderview.ForClass(w, n)
			u := w.Classes[n].Model
			mapped, i, e2 := classverify.AddMaps(infos, u)
			if e != api.OK || e2 != api.OK || classmodel.Check(u) != api.OK {
				t.Fatal(k, c.Name, i, e, e2)
			}
			if i, at, e := classverify.VerifyWithMaps(infos, mapped); e != api.OK {
				t.Error(k, c.Name, i, at, e)
			}
		}
	}
}

// output runs the main method of class M.
func output(t *testing.T, s string) string {
	t.Helper()
	store, e := codegen.CompileStore(source(t, s))
	if e != api.OK {
		t.Fatal(e)
	}
	m, _ := machine.New([]api.Loader{{Store: store}}, 500)
	m, _, e = machine.StartMain(m, 0, "M")
	if e != api.OK {
		t.Fatal(e)
	}
	m, _, e = machine.RunThread(m, 0, 10000)
	if e != api.OK {
		t.Fatal(e)
	}
	return strings.Join(m.Output, " ") + " " + machine.ThreadStatus(m)[0]
}

func TestInitializerOutsideOfMain(t *testing.T) { // P9
	s := "class M extends lang::Object { static int x ; static { M . x = 1 / 0 ; } public static void main ( ) { try { lang::Console . printInt ( 1 ) ; } catch ( lang::Throwable t ) { lang::Console . printInt ( 2 ) ; } } }"
	if got := output(t, s); got != " thrown lang/InitializerError" {
		t.Error(got)
	}
}

func TestManyMonitors(t *testing.T) { // P57.1
	// A small program: its 20 nested monitors and 13 returns must not multiply.
	s := "class M extends lang::Object { static int f ( M a , int k ) { "
	for i := range 18 {
		s += "sync ( a ) { "
		if i == 17 {
			for n := range 13 {
				s += "if ( k ) { return " + strconv.Itoa(n) + " ; } "
			}
		}
	}
	s += strings.Repeat("} ", 18) + "return 99 ; } public static void main ( ) { M m = new M ( ) ; lang::Console . printInt ( M . f ( m , 1 ) ) ; lang::Console . printInt ( M . f ( m , 0 ) ) ; sync ( m ) { m . notify ( ) ; } } }"
	if got := output(t, s); got != "0 99 done" {
		t.Error(got)
	}
	models, _ := codegen.Compile(source(t, s))
	if n := len(models[0].Methods[0].Code.Insns); n > 500 {
		t.Error(n)
	}
}

func TestStackHeight(t *testing.T) { // P57.4
	op := func(n int) api.Insn { return api.Insn{Op: n} }
	push := op(api.Push)
	call := func(n int, name, desc string) api.Insn { return api.Insn{Op: n, Ref: api.Ref{Name: name, Desc: desc}} }
	for k, x := range []struct {
		l    []api.Insn
		want int
	}{
		{nil, 0}, {[]api.Insn{push, push, op(api.IAdd), op(api.Pop)}, 2}, {[]api.Insn{op(api.Pop), op(api.Pop), push}, 1}, {[]api.Insn{push, op(api.Goto), push}, 2}, {[]api.Insn{op(api.Dup)}, 2}, {[]api.Insn{push, op(api.Dup)}, 2}, {[]api.Insn{push, push, op(api.DupX1)}, 3}, {[]api.Insn{op(api.DupX1)}, 3}, {[]api.Insn{op(api.Swap)}, 2}, {[]api.Insn{op(-1), op(api.NumOps), op(1 << 40)}, 0},
		{[]api.Insn{push, push, push, call(api.InvokeStatic, "f", "(IJ)I"), push}, 3}, {[]api.Insn{push, push, push, call(api.InvokeVirtual, "f", "(IJ)V"), push}, 3}, {[]api.Insn{push, push, call(api.InvokeInterface, "f", "bad"), push}, 3}, {[]api.Insn{call(api.InvokeStatic, "f", "bad"), push}, 2}, {[]api.Insn{op(api.New), op(api.Dup), push, call(api.InvokeSpecial, "<init>", "(I)V"), push}, 3}, {[]api.Insn{push, call(api.InvokeSpecial, "f", "()J"), push}, 2},
		{[]api.Insn{push, push, push, op(api.IAStore), push, push, push}, 3}, {[]api.Insn{push, push, push, op(api.IAStore), push, push, push, push}, 4}, {[]api.Insn{push, push, op(api.AALoad), push, push}, 3}, {[]api.Insn{push, op(api.ArrayLength), push}, 2}, {[]api.Insn{push, op(api.NewArray), push}, 2}, {[]api.Insn{op(api.GetStatic), op(api.GetField), push, op(api.PutField), push}, 2}, {[]api.Insn{push, op(api.PutStatic), push}, 1}, {[]api.Insn{push, op(api.IInc), op(api.IStore), op(api.ILoad)}, 1}, {[]api.Insn{push, push, op(api.IfICmpEq), push}, 2}, {[]api.Insn{push, push, op(api.IfNull), push}, 2}, {[]api.Insn{push, op(api.TableSwitch), push}, 1}, {[]api.Insn{push, op(api.IReturn), push, op(api.Return), push}, 2}, {[]api.Insn{push, op(api.AThrow), push, op(api.MonitorEnter), push}, 1}, {[]api.Insn{push, op(api.INeg), op(api.I2L), push, op(api.LCmp), push}, 2}, {[]api.Insn{push, op(api.CheckCast), op(api.InstanceOf), push}, 2}, {[]api.Insn{op(api.Ldc), op(api.AConstNull), op(api.Nop)}, 2},
	} {
		if got := codegen.StackHeight(x.l); got != x.want {
			t.Error(k, got, x.want)
		}
	}
	for _, s := range sample.Programs() {
		models, _ := codegen.Compile(source(t, s))
		for _, u := range models {
			for _, m := range u.Methods {
				if m.HasCode && !slices.ContainsFunc(m.Code.Insns, func(i api.Insn) bool { return i.Op >= api.IfEq && i.Op <= api.Goto || i.Op == api.AThrow }) && codegen.StackHeight(m.Code.Insns) != m.Code.Stack {
					t.Error(u.Name, m.Name)
				}
			}
		}
	}
}
