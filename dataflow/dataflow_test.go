package dataflow

import (
	"armature/api"
	"armature/asm"
	"armature/flow"
	"armature/merge"
	"armature/transfer"
	"strings"
	"testing"
)

func classes() []api.ClassInfo {
	return []api.ClassInfo{{Name: "lang/Object"}, {Name: "lang/String", Super: "lang/Object"}, {Name: "lang/Throwable", Super: "lang/Object"}, {Name: "P", Super: "lang/Object"}, {Name: "A", Super: "P"}, {Name: "B", Super: "P"}}
}

// context is a method of class A; the code lines are separated by bars.
func context(t *testing.T, head, sizes, code string) api.MethodContext {
	t.Helper()
	lines := []string{"class 1 A extends P", "method " + head, "code " + sizes}
	for _, s := range strings.Split(code, "|") {
		lines = append(lines, strings.TrimSpace(s))
	}
	u, at, e := asm.Assemble(append(lines, "end", "end"))
	if e != api.OK {
		t.Fatal(code, at, e)
	}
	return api.MethodContext{Classes: classes(), Model: u}
}

func accepted(t *testing.T) []api.MethodContext {
	return []api.MethodContext{
		context(t, "9 f (I)V", "2 2", "return"),
		context(t, "9 f (I)V", "2 2", "iload 0| ifeq 5| ldc string \"x\"| astore 1| goto 7| aconstnull| astore 1| aload 1| pop| return"),
		context(t, "9 f (LA;LB;)LP;", "2 2", "aload 0| ifnull 4| aload 1| astore 0| aload 0| areturn"),
		context(t, "9 f (LA;LB;)V", "2 2", "aload 0| pop| aload 1| astore 0| goto 0"),
		context(t, "9 f (LA;I)LP;", "2 2", "aload 0| areturn| pop| aload 0| areturn| catch 0 2 2 *"),
		context(t, "9 f (LA;I)V", "1 2", "iload 1| nop| lookupswitch 1 4 2 5 else 3| return| goto 0| aconstnull| astore 0| return| nop| return| pop| goto 3| catch 0 2 10 lang/Throwable"),
		context(t, "1 <init> ()V", "2 2", "aload 0| invokespecial P <init> ()V| aload 0| astore 1| return"),
		context(t, "9 f (I)V", "2 3", "aconstnull| astore 2| new A| astore 1| aload 2| pop| iload 0| ifeq 2| return"),
	}
}

func TestExamples(t *testing.T) { // P21.2
	for _, x := range []struct {
		w  api.MethodContext
		at int
		e  api.Errno
	}{
		{context(t, "9 f ()LA;", "2 0", "push 1| ifeq 3| aconstnull| areturn"), 2, api.ErrMergeHeight},
		{context(t, "1 f ()LA;", "2 1", "aload 0| goto 0"), 1, api.ErrMergeHeight},
		{context(t, "9 f ()I", "2 0", "nop| aconstnull| ireturn"), 2, api.ErrTypeMismatch},
		{context(t, "9 f ()V", "0 0", "nop| return| return| catch 1 2 2 *"), 1, api.ErrStackHeight},
		{context(t, "9 f ()V", "1 0", "nop| return| pop| return| catch 1 2 2 A"), 1, api.ErrTypeMismatch},
		{context(t, "9 f (I)I", "1 1", "iload 0| ifeq 4| aconstnull| astore 0| iload 0| ireturn"), 4, api.ErrBadLocal},
		{context(t, "9 f (I)I", "1 1", "iload 0| ireturn| iload 0| nop| ireturn| catch 0 1 3 *"), 4, api.ErrTypeMismatch},
		{api.MethodContext{Classes: classes(), Method: 7}, 0, api.ErrBadDescriptor},
	} {
		l, at, e := Infer(x.w)
		if l != nil || at != x.at || e != x.e {
			t.Error(l, at, e, "want", x.at, x.e)
		}
		if IsFixpoint(x.w, nil) != (x.e != api.ErrBadDescriptor) {
			t.Error("the empty state is a fixpoint")
		}
	}
}

func TestInfer(t *testing.T) { // P21.2, P21.3, P21.4
	for k, w := range accepted(t) {
		l, at, e := Infer(w)
		if at != 0 || e != api.OK || !IsFixpoint(w, l) || l[0].Index != 0 {
			t.Fatal(k, at, e)
		}
		first, _ := transfer.Initial(w)
		if !merge.Assignable(w.Classes, first, l[0].Frame) {
			t.Error(k, l[0])
		}
		reach := flow.Reachable(w.Model.Methods[0].Code)
		n := 0
		for _, m := range l {
			if !reach[m.Index] {
				t.Error(k, m)
			}
		}
		for _, r := range reach {
			if r {
				n++
			}
		}
		if n != len(l) {
			t.Error(k, n, len(l))
		}
		state := []api.StackMap{{Index: 0, Frame: first}}
		for range 20 {
			next, changed, at, e := Sweep(w, state)
			if e != api.OK || at != 0 {
				t.Fatal(k, at, e)
			}
			for _, old := range state {
				for _, m := range next {
					if m.Index == old.Index && !merge.Assignable(w.Classes, old.Frame, m.Frame) {
						t.Error("shrinks", k, m)
					}
				}
			}
			state = next
			if !changed {
				break
			}
		}
		if !equalStates(state, l) {
			t.Error("sweeps lead elsewhere", k, state, l)
		}
	}
}

func equalStates(a, b []api.StackMap) bool {
	if len(a) != len(b) {
		return false
	}
	for i := range a {
		if a[i].Index != b[i].Index || !merge.Equal(a[i].Frame, b[i].Frame) {
			return false
		}
	}
	return true
}

func TestLeast(t *testing.T) { // P21.4
	w := accepted(t)[2]
	l, _, _ := Infer(w)
	p := api.VType{Kind: api.VRef, Type: api.Type{Base: 'L', Name: "P"}}
	if l[4].Index != 4 || l[4].Frame.Locals[0] != p {
		t.Error(l)
	}
	high := []api.StackMap{{Index: 0, Frame: api.Frame{Locals: []api.VType{p, p}}}}
	for {
		next, changed, _, e := Sweep(w, high)
		if e != api.OK {
			t.Fatal(e)
		}
		high = next
		if !changed {
			break
		}
	}
	for i := range l {
		if !merge.Assignable(w.Classes, l[i].Frame, high[i].Frame) || l[i].Index != high[i].Index {
			t.Error(i)
		}
	}
}

func TestSweep(t *testing.T) { // P21.1
	w := context(t, "9 f (I)V", "1 1", "goto 2| return| nop| goto 1")
	top := api.Frame{Locals: []api.VType{{}}}
	l, changed, at, e := Sweep(w, []api.StackMap{{Index: 3, Frame: top}})
	if e != api.OK || at != 0 || !changed || len(l) != 2 || l[0].Index != 1 {
		t.Error(l, changed, at, e)
	}
	l, changed, _, e = Sweep(w, []api.StackMap{{Index: 0, Frame: top}})
	if e != api.OK || !changed || len(l) != 4 || l[1].Index != 1 {
		t.Error("instruction 1 is known but not visited again", l, changed, e)
	}
	if l, changed, _, e := Sweep(w, l); e != api.OK || changed || len(l) != 4 {
		t.Error(l, changed, e)
	}
	if l, changed, _, e := Sweep(w, nil); e != api.OK || changed || len(l) != 0 {
		t.Error(l, changed, e)
	}
	for _, bad := range [][]api.StackMap{{{Index: -1, Frame: top}}, {{Index: 4, Frame: top}}, {{Index: 1, Frame: top}, {Index: 1, Frame: top}}, {{Index: 1, Frame: top}, {Index: 0, Frame: top}}, {{Index: 0}}, {{Index: 0, Frame: api.Frame{Locals: top.Locals, Stack: make([]api.VType, 2)}}}, {{Index: 0, Frame: api.Frame{Locals: []api.VType{{Kind: 8}}}}}} {
		if l, changed, at, e := Sweep(w, bad); l != nil || changed || at != 0 || e != api.ErrBadArgument || IsFixpoint(w, bad) {
			t.Error(bad, l, changed, at, e)
		}
	}
	w.Method = 3
	if _, _, at, e := Sweep(w, []api.StackMap{{Index: -1}}); at != 0 || e != api.ErrBadArgument || IsFixpoint(w, nil) {
		t.Error(at, e)
	}
	bad := context(t, "9 f (I)I", "1 1", "goto 2| ireturn| aload 0| ireturn")
	if l, changed, at, e := Sweep(bad, []api.StackMap{{Index: 0, Frame: top}}); l != nil || changed || at != 2 || e != api.ErrBadLocal {
		t.Error(l, changed, at, e)
	}
}
