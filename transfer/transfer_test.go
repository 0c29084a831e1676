package transfer

import (
	"armature/api"
	"armature/asm"
	"armature/desc"
	"armature/merge"
	"strconv"
	"strings"
	"testing"
)

func classes() []api.ClassInfo {
	return []api.ClassInfo{{Name: "lang/Object"}, {Name: "lang/String", Super: "lang/Object"}, {Name: "lang/Throwable", Super: "lang/Object"}, {Name: "E", Super: "lang/Throwable"}, {Name: "P", Super: "lang/Object"}, {Name: "A", Super: "P", Interfaces: []string{"I"}}, {Name: "B", Super: "A"}, {Name: "I", Super: "lang/Object", IsInterface: true}}
}

// context is a method of class A with the given code lines, stack 3 and locals 3.
func context(t *testing.T, head string, code ...string) api.MethodContext {
	t.Helper()
	lines := append([]string{"class 1 A extends P", "implements I", "method " + head, "code 3 3"}, code...)
	u, at, e := asm.Assemble(append(lines, "end", "method 1025 none ()V", "end", "end"))
	if e == api.ErrBadFlags {
		lines[0] = "class 1025 A extends P"
		u, at, e = asm.Assemble(append(lines, "end", "method 1025 none ()V", "end", "end"))
	}
	if e != api.OK {
		t.Fatal(code, at, e)
	}
	return api.MethodContext{Classes: classes(), Model: u}
}

func parseVType(s string) api.VType {
	for kind, word := range []string{"top", "int", "long", "null"} {
		if s == word {
			return api.VType{Kind: kind}
		}
	}
	v := api.VType{Kind: api.VRef}
	if rest, ok := strings.CutPrefix(s, "this:"); ok {
		v.Kind, s = api.VUninitializedThis, rest
	} else if rest, ok := strings.CutPrefix(s, "new"); ok {
		n, d, _ := strings.Cut(rest, ":")
		v.Kind, s = api.VUninitialized, d
		v.NewIndex, _ = strconv.Atoi(n)
	}
	v.Type, _ = desc.Parse(s)
	return v
}

// frame parses locals and stack, separated by a bar; a leading raw sets Uninit.
func frame(s string) api.Frame {
	var f api.Frame
	s, f.Uninit = strings.CutPrefix(s, "raw ")
	locals, stack, _ := strings.Cut(s, "|")
	for _, w := range strings.Fields(locals) {
		f.Locals = append(f.Locals, parseVType(w))
	}
	for len(f.Locals) < 3 {
		f.Locals = append(f.Locals, api.VType{})
	}
	for _, w := range strings.Fields(stack) {
		f.Stack = append(f.Stack, parseVType(w))
	}
	return f
}

type row struct {
	insn, before, after string
	e                   api.Errno
}

func rows() []row {
	const height, local, mismatch, raw, access, kind = api.ErrStackHeight, api.ErrBadLocal, api.ErrTypeMismatch, api.ErrUninitialized, api.ErrIllegalAccess, api.ErrReturnKind
	return []row{
		{"nop", "int|LA;", "int|LA;", 0}, {"goto 0", "|int", "|int", 0}, {"aconstnull", "|", "|null", 0}, {"aconstnull", "|int int int", "", height}, {"push 5", "|", "|int", 0}, {"push 5", "|int int int", "", height},
		{"ldc int 5", "|", "|int", 0}, {"ldc long 5", "|", "|long", 0}, {"ldc string \"x\"", "|", "|Llang/String;", 0}, {"ldc string \"x\"", "|int int int", "", height},
		{"iload 1", "top int|", "top int|int", 0}, {"iload 1", "top long|", "", local}, {"iload 1", "top int|int int int", "", height}, {"lload 0", "long|", "long|long", 0}, {"lload 0", "null|", "", local}, {"aload 0", "LA;|", "LA;|LA;", 0}, {"aload 0", "null|", "null|null", 0}, {"aload 0", "this:LA;|", "this:LA;|this:LA;", 0}, {"aload 0", "new3:LB;|", "new3:LB;|new3:LB;", 0}, {"aload 0", "top|", "", local}, {"aload 0", "int|", "", local},
		{"istore 2", "|int", "top top int|", 0}, {"istore 2", "|long", "", mismatch}, {"istore 2", "|", "", height}, {"lstore 0", "int|long", "long|", 0}, {"lstore 0", "|int", "", mismatch}, {"astore 0", "int|null", "null|", 0}, {"astore 0", "|this:LA;", "this:LA;|", 0}, {"astore 0", "|new1:LA;", "new1:LA;|", 0}, {"astore 0", "|int", "", mismatch}, {"astore 0", "|top", "", mismatch},
		{"iinc 0 1", "int|", "int|", 0}, {"iinc 0 1", "long|", "", local}, {"pop", "|top", "|", 0}, {"pop", "|", "", height}, {"dup", "|new1:LA;", "|new1:LA; new1:LA;", 0}, {"dup", "|int int int", "", height}, {"dup", "|", "", height}, {"dupx1", "|int long", "|long int long", 0}, {"dupx1", "|int", "", height}, {"dupx1", "|int int int", "", height}, {"swap", "|int null", "|null int", 0}, {"swap", "|null", "", height},
		{"iadd", "|long int int", "|long int", 0}, {"iadd", "|int long", "", mismatch}, {"iadd", "|long int", "", mismatch}, {"ixor", "|int int", "|int", 0}, {"iadd", "|int", "", height}, {"ineg", "|int", "|int", 0}, {"ineg", "|long", "", mismatch}, {"ladd", "|long long", "|long", 0}, {"lrem", "|long int", "", mismatch}, {"lneg", "|long", "|long", 0}, {"lneg", "|int", "", mismatch}, {"lcmp", "|long long", "|int", 0}, {"lcmp", "|int long", "", mismatch}, {"i2l", "|int", "|long", 0}, {"i2l", "|long", "", mismatch}, {"l2i", "|long", "|int", 0}, {"l2i", "|int", "", mismatch},
		{"ifeq 0", "|int", "|", 0}, {"ifle 0", "|long", "", mismatch}, {"tableswitch 0 0 else 0", "|int", "|", 0}, {"lookupswitch else 0", "|null", "", mismatch}, {"ificmpeq 0", "|int int", "|", 0}, {"ificmple 0", "|int long", "", mismatch}, {"ifacmpeq 0", "|null LA;", "|", 0}, {"ifacmpne 0", "|LA; new1:LA;", "", raw}, {"ifacmpne 0", "|int LA;", "", mismatch}, {"ifacmpne 0", "|LA;", "", height}, {"ifnull 0", "|[I", "|", 0}, {"ifnonnull 0", "|int", "", mismatch}, {"ifnonnull 0", "|this:LA;", "", raw}, {"monitorenter", "|null", "|", 0}, {"monitorexit", "|top", "", mismatch}, {"monitorexit", "|new1:LA;", "", raw},
		{"getstatic X s [J", "|", "|[J", 0}, {"getstatic X s I", "|int int int", "", height}, {"putstatic X s LA;", "|LB;", "|", 0}, {"putstatic X s LB;", "|LA;", "", mismatch}, {"putstatic X s I", "|new1:LA;", "", mismatch}, {"putstatic X s LA;", "|new1:LA;", "", raw}, {"getfield A f J", "|LB;", "|long", 0}, {"getfield A f J", "|null", "|long", 0}, {"getfield B f J", "|LA;", "", mismatch}, {"getfield A f J", "|this:LA;", "", raw}, {"getfield A f J", "|", "", height}, {"putfield A f J", "|LB; long", "|", 0}, {"putfield A f J", "|LB; int", "", mismatch}, {"putfield A f J", "|int long", "", mismatch}, {"putfield A f LI;", "|new2:LA; LP;", "", raw}, {"putfield A f J", "|long", "", height},
		{"invokestatic X f (IJ)LA;", "|int long", "|LA;", 0}, {"invokestatic X f (IJ)V", "|null int long", "|null", 0}, {"invokestatic X f (IJ)V", "|long int", "", mismatch}, {"invokestatic X f (IJ)V", "|long", "", height}, {"invokestatic X f (LA;)V", "|this:LA;", "", raw}, {"invokestatic X f ()I", "|int int int", "", height}, {"invokevirtual A f (I)J", "|LB; int", "|long", 0}, {"invokevirtual B f (I)J", "|LA; int", "", mismatch}, {"invokevirtual A f ()V", "|new1:LA;", "", raw}, {"invokevirtual A f ()V", "|", "", height}, {"invokeinterface I f ()V", "|LP;", "|", 0}, {"invokeinterface I f ()V", "|[I", "", mismatch},
		{"invokespecial P f ()I", "|LA;", "|int", 0}, {"invokespecial P f ()I", "|LP;", "", mismatch}, {"invokespecial A f ()I", "|LB;", "|int", 0}, {"invokespecial I f ()I iface", "|LA;", "|int", 0}, {"invokespecial B f ()I", "|LA;", "", access}, {"invokespecial lang/Object f ()I", "|", "", access}, {"invokespecial P f ()I", "|this:LA;", "", raw},
		{"invokespecial B <init> (I)V", "new2:LB; new3:LB; LA;|new2:LB; new2:LB; int", "LB; new3:LB; LA;|LB;", 0}, {"invokespecial A <init> ()V", "|new2:LB;", "", mismatch}, {"invokespecial P <init> ()V", "raw this:LA;|this:LA;", "LA;|", 0}, {"invokespecial A <init> ()V", "raw this:LA; int|this:LA; this:LA;", "LA; int|LA;", 0}, {"invokespecial B <init> ()V", "raw this:LA;|this:LA;", "", mismatch}, {"invokespecial P <init> ()V", "|LP;", "", raw}, {"invokespecial P <init> ()V", "|int", "", raw}, {"invokespecial P <init> ()V", "|", "", height}, {"invokespecial P <init> (I)V", "|new1:LP; null", "", mismatch}, {"invokespecial B <init> ()V", "raw this:LA;|new1:LB;", "raw this:LA;|", 0},
		{"new B", "new0:LB; new1:LB;|int", "top new1:LB;|int new0:LB;", 0}, {"new B", "|new0:LB;", "", raw}, {"new B", "|int int int", "", height}, {"newarray [I", "|int", "|[[I", 0}, {"newarray LA;", "|long", "", mismatch}, {"newarray [[[[[[[[I", "|int", "", mismatch}, {"newarray J", "|int", "|[J", 0},
		{"arraylength", "|[I", "|int", 0}, {"arraylength", "|null", "|int", 0}, {"arraylength", "|LA;", "", mismatch}, {"arraylength", "|int", "", mismatch}, {"arraylength", "|new1:LA;", "", raw}, {"iaload", "|[I int", "|int", 0}, {"iaload", "|null int", "|int", 0}, {"iaload", "|[J int", "", mismatch}, {"iaload", "|[I long", "", mismatch}, {"laload", "|[J int", "|long", 0}, {"laload", "|new1:LA; int", "", raw}, {"aaload", "|[LA; int", "|LA;", 0}, {"aaload", "|[[I int", "|[I", 0}, {"aaload", "|null int", "|null", 0}, {"aaload", "|[I int", "", mismatch}, {"aaload", "|LA; int", "", mismatch}, {"aaload", "|this:LA; int", "", raw}, {"aaload", "|top int", "", mismatch},
		{"iastore", "|[I int int", "|", 0}, {"iastore", "|[I int long", "", mismatch}, {"iastore", "|[LA; int int", "", mismatch}, {"lastore", "|[J int long", "|", 0}, {"lastore", "|[J long int", "", mismatch}, {"aastore", "|[LA; int LP;", "|", 0}, {"aastore", "|null int null", "|", 0}, {"aastore", "|[I int null", "", mismatch}, {"aastore", "|[LA; int new1:LA;", "", raw}, {"aastore", "|new1:LA; int null", "", raw}, {"aastore", "|[LA; int int", "", mismatch},
		{"checkcast [LA;", "|null", "|[LA;", 0}, {"checkcast B", "|LA;", "|LB;", 0}, {"checkcast B", "|int", "", mismatch}, {"instanceof B", "|[I", "|int", 0}, {"instanceof B", "|this:LA;", "", raw}, {"athrow", "|LE;", "|", 0}, {"athrow", "|null", "|", 0}, {"athrow", "|LA;", "", mismatch}, {"athrow", "|new1:LE;", "", raw},
		{"return", "|int", "|int", 0}, {"return", "raw |", "", raw}, {"ireturn", "|int", "", kind}, {"areturn", "|", "", kind},
	}
}

func expect(t *testing.T, w api.MethodContext, r row) {
	t.Helper()
	f, e := Apply(w, frame(r.before), 0)
	want := api.Frame{}
	if r.e == api.OK {
		want = frame(r.after)
	}
	if e != r.e || !merge.Equal(f, want) {
		t.Errorf("%s on %q: %v %d, want %v %d", r.insn, r.before, f, e, want, r.e)
	}
}

func TestApply(t *testing.T) { // P20.3
	for _, r := range rows() {
		expect(t, context(t, "1 f ()V", r.insn, "return"), r)
	}
	for head, l := range map[string][]row{
		"1 f ()I":    {{"ireturn", "|int", "|", 0}, {"ireturn", "|long", "", api.ErrTypeMismatch}, {"ireturn", "|", "", api.ErrStackHeight}, {"return", "|", "", api.ErrReturnKind}, {"lreturn", "|long", "", api.ErrReturnKind}},
		"1 f ()J":    {{"lreturn", "|long", "|", 0}, {"ireturn", "|int", "", api.ErrReturnKind}},
		"1 f ()LA;":  {{"areturn", "|LB;", "|", 0}, {"areturn", "|LP;", "", api.ErrTypeMismatch}, {"areturn", "|this:LA;", "", api.ErrUninitialized}, {"ireturn", "|int", "", api.ErrReturnKind}},
		"1 f ()[LI;": {{"areturn", "|[LP;", "|", 0}},
	} {
		for _, r := range l {
			expect(t, context(t, head, r.insn), r)
		}
	}
}

func TestArguments(t *testing.T) { // P20.1, P20.3
	w := context(t, "1 f ()V", "nop", "return")
	for _, at := range []int{-1, 2} {
		if _, e := Apply(w, api.Frame{}, at); e != api.ErrRange {
			t.Error(at, e)
		}
	}
	for _, f := range []api.Frame{{}, {Locals: make([]api.VType, 4)}, frame("|int int int int"), frame("|LA; LA.;"), {Locals: []api.VType{{Kind: 9}, {}, {}}}} {
		if _, e := Apply(w, f, 0); e != api.ErrBadArgument {
			t.Error(f, e)
		}
	}
	change := func(f func(*api.MethodContext)) api.MethodContext {
		w := context(t, "1 f ()V", "nop", "return")
		f(&w)
		return w
	}
	for k, x := range []struct {
		w api.MethodContext
		e api.Errno
	}{
		{change(func(w *api.MethodContext) { w.Classes = append(w.Classes, api.ClassInfo{}); w.Model.Name = "" }), api.ErrBadName},
		{change(func(w *api.MethodContext) { w.Model.Flags = -1; w.Method = -1 }), api.ErrBadFlags},
		{change(func(w *api.MethodContext) { w.Method = -1; w.Model.Name = "X" }), api.ErrBadArgument}, {change(func(w *api.MethodContext) { w.Method = 1 }), api.ErrBadArgument}, {change(func(w *api.MethodContext) { w.Method = 2 }), api.ErrBadArgument}, {change(func(w *api.MethodContext) { w.Model.Name = "X" }), api.ErrNoClass},
	} {
		if e := Check(x.w); e != x.e {
			t.Error(k, e)
		}
		_, e1 := Initial(x.w)
		_, e2 := Apply(x.w, api.Frame{}, -1)
		_, e3 := HandlerFrame(x.w, api.Frame{}, -1)
		if e1 != x.e || e2 != x.e || e3 != x.e {
			t.Error(k, e1, e2, e3)
		}
	}
}

func TestInitial(t *testing.T) { // P20.2
	for head, want := range map[string]string{"1 f (J)V": "LA; long top|", "9 f (I[LB;)V": "int [LB; top|", "1 <init> (I)V": "raw this:LA; int top|", "8 <clinit> ()V": "|"} {
		if f, e := Initial(context(t, head, "return")); e != api.OK || !merge.Equal(f, frame(want)) {
			t.Error(head, f, e)
		}
	}
	u, _, e := asm.Assemble([]string{"class 1 lang/Object extends -", "method 1 <init> ()V", "code 0 1", "return", "end", "end"})
	f, e2 := Initial(api.MethodContext{Classes: classes(), Model: u})
	if e != api.OK || e2 != api.OK || f.Uninit || f.Locals[0] != parseVType("Llang/Object;") {
		t.Error(f, e, e2)
	}
}

func TestHandlerFrame(t *testing.T) { // P20.4
	w := context(t, "1 f ()V", "nop", "return", "catch 0 1 0 *", "catch 0 1 0 E", "catch 0 1 0 P")
	for k, want := range []string{"raw int|Llang/Throwable;", "raw int|LE;"} {
		if f, e := HandlerFrame(w, frame("raw int|null int"), k); e != api.OK || !merge.Equal(f, frame(want)) {
			t.Error(k, f, e)
		}
	}
	for _, x := range []struct {
		row int
		f   api.Frame
		e   api.Errno
	}{{2, frame("|"), api.ErrTypeMismatch}, {3, api.Frame{}, api.ErrRange}, {-1, api.Frame{}, api.ErrRange}, {0, api.Frame{}, api.ErrBadArgument}, {2, api.Frame{}, api.ErrBadArgument}} {
		if f, e := HandlerFrame(w, x.f, x.row); e != x.e || !merge.Equal(f, api.Frame{}) {
			t.Error(x, f, e)
		}
	}
	w.Model.Methods[0].Code.Stack = 0
	if _, e := HandlerFrame(w, frame("|"), 0); e != api.ErrStackHeight {
		t.Error(e)
	}
	if _, e := HandlerFrame(w, frame("|"), 2); e != api.ErrTypeMismatch {
		t.Error(e)
	}
}

func TestLaws(t *testing.T) { // P20.5
	lower := map[string]string{"LP;": "LB;", "LA;": "LB;", "Llang/Throwable;": "LE;"}
	for _, r := range rows() {
		w := context(t, "1 f ()V", r.insn, "return")
		before := frame(r.before)
		after, e := Apply(w, before, 0)
		if e == api.OK {
			if _, e := Apply(w, after, 1); e == api.ErrBadArgument {
				t.Error("not an argument", r)
			}
		}
		narrow := r.before
		for a, b := range lower {
			narrow = strings.ReplaceAll(narrow, " "+a, " "+b)
			narrow = strings.ReplaceAll(narrow, "|"+a, "|"+b)
		}
		if g, e2 := Apply(w, frame(narrow), 0); e == api.OK && (e2 != api.OK || !merge.Assignable(w.Classes, g, after)) {
			t.Error("monotony", r, narrow, g, e2)
		}
		if len(before.Stack) > 0 && e == api.OK {
			deep := api.Frame{Locals: before.Locals, Stack: append([]api.VType{{Kind: api.VLong}}, before.Stack...), Uninit: before.Uninit}
			w.Model.Methods[0].Code.Stack = 5
			if g, e := Apply(w, deep, 0); e != api.OK || len(g.Stack) != len(after.Stack)+1 || g.Stack[0].Kind != api.VLong {
				t.Error("entries below", r, g, e)
			}
		}
	}
}
