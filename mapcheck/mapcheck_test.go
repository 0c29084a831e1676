package mapcheck

import (
	"armature/api"
	"armature/asm"
	"armature/dataflow"
	"armature/flow"
	"armature/merge"
	"armature/stackmap"
	"armature/transfer"
	"strings"
	"testing"
)

func classes() []api.ClassInfo {
	return []api.ClassInfo{{Name: "lang/Object"}, {Name: "lang/String", Super: "lang/Object"}, {Name: "lang/Throwable", Super: "lang/Object"}, {Name: "P", Super: "lang/Object"}, {Name: "A", Super: "P"}, {Name: "B", Super: "P"}}
}

func context(t *testing.T, head, sizes, code string) api.MethodContext {
	t.Helper()
	lines := []string{"class 1 A extends P", "method " + head, "code " + sizes}
	for _, s := range strings.Split(code, "|") {
		lines = append(lines, strings.TrimSpace(s))
	}
	u, at, e := asm.Assemble(append(lines, "end", "end"))
	if e != api.OK {
		t.Fatal(code, at, e)
	}
	return api.MethodContext{Classes: classes(), Model: u}
}

func TestExamplesAndErrors(t *testing.T) { // P23.1
	for k, x := range []struct {
		w  api.MethodContext
		at int
		e  api.Errno
	}{
		{context(t, "9 f ()V", "1 0", "push 1| ifeq 3| nop| return"), 1, api.ErrStackMap},
		{context(t, "9 f ()V", "1 0", "push 1| ifeq 3| nop| map locals stack| return"), 0, api.OK},
		{context(t, "9 f ()V", "1 0", "push 1| ifeq 3| nop| map locals stack int| return"), 1, api.ErrStackMap},
		{context(t, "9 f ()V", "1 0", "push 1| map locals stack int| ifeq 3| map locals stack int| nop| map locals stack| return"), 2, api.ErrStackMap},
		{context(t, "9 f ()V", "1 0", "map locals stack int| pop| return"), 0, api.ErrStackMap},
		{context(t, "9 f (I)V", "1 1", "map locals stack| return"), 0, api.ErrStackMap},
		{context(t, "9 f (I)V", "1 1", "nop| map locals top stack| iload 0| pop| return"), 1, api.ErrBadLocal},
		{context(t, "9 f ()V", "1 0", "goto 2| nop| map locals stack| return"), 0, api.OK},
		{context(t, "9 f ()V", "1 0", "return| nop| return"), 0, api.OK},
		{context(t, "9 f ()V", "1 0", "return| map locals stack| pop| return"), 1, api.ErrStackHeight},
		{context(t, "9 f ()V", "1 0", "nop| return| pop| return| catch 0 1 2 *"), 0, api.ErrStackMap},
		{context(t, "9 f ()V", "1 0", "nop| return| map locals stack Llang/Throwable;| pop| return| catch 0 1 2 *"), 0, api.OK},
		{context(t, "9 f ()V", "1 0", "nop| return| map locals stack LA;| pop| return| catch 0 1 2 *"), 0, api.ErrStackMap},
		{context(t, "9 f ()V", "1 0", "nop| return| map locals stack LA;| pop| return| catch 0 1 2 A"), 0, api.ErrTypeMismatch},
		{context(t, "9 f ()V", "0 0", "return| map locals stack| return| catch 0 1 1 *"), 0, api.ErrStackHeight},
		{context(t, "9 f ()V", "1 0", "map locals stack| nop| goto 0"), 0, api.OK},
		{context(t, "9 f (I)V", "1 1", "goto 2| nop| map raw locals int stack| return"), 2, api.ErrUninitialized},
		{api.MethodContext{Classes: classes(), Method: 3}, 0, api.ErrBadDescriptor},
	} {
		at, e := CheckMethod(x.w)
		if at != x.at || e != x.e {
			t.Errorf("case %d: %d, %d, want %d, %d", k, at, e, x.at, x.e)
		}
		l, at, e := Trace(x.w)
		if at != x.at || e != x.e || (l == nil) != (e != api.OK) {
			t.Error(k, l, at, e)
		}
	}
}

func accepted(t *testing.T) []api.MethodContext {
	return []api.MethodContext{
		context(t, "9 f (I)V", "2 2", "iload 0| ifeq 5| ldc string \"x\"| astore 1| goto 7| aconstnull| astore 1| aload 1| pop| return"),
		context(t, "9 f (LA;LB;)LP;", "2 2", "aload 0| ifnull 4| aload 1| astore 0| aload 0| areturn"),
		context(t, "9 f (LA;LB;)V", "2 2", "aload 0| pop| aload 1| astore 0| goto 0"),
		context(t, "9 f (LA;I)V", "1 2", "iload 1| nop| lookupswitch 1 4 2 5 else 3| return| goto 0| aconstnull| astore 0| return| nop| return| pop| goto 3| catch 0 2 10 lang/Throwable"),
		context(t, "1 <init> ()V", "2 2", "aload 0| invokespecial P <init> ()V| aload 0| astore 1| return"),
	}
}

func TestAgreement(t *testing.T) { // P23.2, P23.3
	for k, w := range accepted(t) {
		inferred, _, e := dataflow.Infer(w)
		if e != api.OK {
			t.Fatal(k, e)
		}
		c := w.Model.Methods[0].Code
		for _, maps := range [][]api.StackMap{inferred, stackmap.Select(c, inferred)} {
			u, e := stackmap.Attach(w.Model, 0, maps)
			if e != api.OK {
				t.Fatal(k, e)
			}
			v := w
			v.Model = u
			trace, at, e := Trace(v)
			if e != api.OK {
				t.Fatal(k, at, e)
			}
			checkTrace(t, v, trace)
			for _, m := range inferred {
				if f, ok := stackmap.FrameAt(trace, m.Index); !ok || !merge.Assignable(w.Classes, m.Frame, f) {
					t.Error(k, m, f)
				}
			}
		}
	}
}

// checkTrace looks at every edge of the code.
func checkTrace(t *testing.T, w api.MethodContext, trace []api.StackMap) {
	t.Helper()
	c := w.Model.Methods[0].Code
	leads := func(f api.Frame, to int) {
		if g, ok := stackmap.FrameAt(trace, to); !ok || !merge.Assignable(w.Classes, f, g) {
			t.Error("does not lead to", to)
		}
	}
	for _, m := range trace {
		if f, ok := stackmap.FrameAt(c.StackMaps, m.Index); ok && !merge.Equal(f, m.Frame) {
			t.Error("not the map", m)
		}
		f, e := transfer.Apply(w, m.Frame, m.Index)
		if e != api.OK {
			t.Error(m, e)
		}
		for _, to := range flow.Successors(c, m.Index) {
			leads(f, to)
		}
		for _, row := range flow.Handlers(c, m.Index) {
			h, e := transfer.HandlerFrame(w, m.Frame, row)
			if e != api.OK {
				t.Error(m, e)
			}
			leads(h, c.Handlers[row].Target)
		}
	}
}
