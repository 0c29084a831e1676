package objectops_test

import (
	"armature/api"
	"armature/callstack"
	"armature/classspace"
	"armature/heap"
	"armature/load"
	"armature/objectops"
	"armature/sample"
	"reflect"
	"slices"
	"strconv"
	"strings"
	"testing"
)

const listing = `class 1537 I extends lang/Object
class 1 A extends lang/Object
field 1 x I
field 1 l J
field 1 r LA;
field 9 s I = int 5
field 9 sl J
field 9 sr LA;
field 2 p I
m 1 <init> ()V
class 1 B extends A
implements I
field 1 y I
m 1 <init> ()V
class 1025 Abs extends lang/Object
class 0 q/Hidden extends lang/Object
class 1 Bad extends lang/Object
field 9 s I
method 9 f ()I
code 1 0
aconstnull
ireturn
end
class 1 C extends lang/Object
field 9 s I`

type bench struct {
	*testing.T
	m     api.Machine
	insns []string
}

func v(kind, n int) api.Value { return api.Value{Kind: kind, N: n} }

// objects: 1 is an A, 2 a B, 3 an int[2], 4 a long[1], 5 an A[2], 6 a B[1], 7 a string, 8 an int[][1].
func newBench(t *testing.T, insns ...string) *bench {
	t.Helper()
	s := listing + "\nclass 1 T extends lang/Object\n"
	for i, x := range insns {
		s += "method 9 t" + strconv.Itoa(i) + " ()V\ncode 4 1\n" + x + "\nreturn\nend\n"
	}
	m, e := sample.Machine(20, strings.TrimSpace(s))
	if e != api.OK {
		t.Fatal(e)
	}
	b := &bench{t, m, insns}
	i, j := api.RuntimeType{Base: 'I'}, api.RuntimeType{Base: 'J'}
	b.object(heap.NewObject(b.m, b.id("A")))
	b.object(heap.NewObject(b.m, b.id("B")))
	b.object(heap.NewArray(b.m, i, 2))
	b.object(heap.NewArray(b.m, j, 1))
	b.object(heap.NewArray(b.m, b.class("A"), 2))
	b.object(heap.NewArray(b.m, b.class("B"), 1))
	b.object(heap.Allocate(b.m, api.Object{Kind: api.ObjString, Type: b.class("lang/String"), String: "s"}))
	b.object(heap.NewArray(b.m, api.RuntimeType{Dim: 1, Base: 'I'}, 1))
	return b
}

func (b *bench) object(m api.Machine, _ int, e api.Errno) {
	b.Helper()
	if e != api.OK || !heap.Valid(m) {
		b.Fatal(e)
	}
	b.m = m
}

func (b *bench) id(s string) int {
	b.Helper()
	c, ok := classspace.FindLoaded(b.m.Space, 0, s)
	if !ok && s == "lang/String" {
		b.m.Space, c, _ = load.Load(b.m.Space, 0, s)
		ok = true
	}
	if !ok {
		b.Fatal(s)
	}
	return c
}

func (b *bench) class(s string) api.RuntimeType { return api.RuntimeType{Base: 'L', Class: b.id(s)} }

// ready marks classes as initialized.
func (b *bench) ready(names ...string) {
	for _, s := range names {
		c := b.id(s)
		b.m.Init = append(slices.Clone(b.m.Init), make([]api.InitRecord, max(0, c+1-len(b.m.Init)))...)
		b.m.Init[c].State = api.Initialized
		for _, f := range b.m.Space.Classes[c].Model.Fields {
			if f.Flags&api.Static != 0 {
				b.m.Init[c].Statics = append(b.m.Init[c].Statics, v(map[byte]int{'I': 1, 'J': 2, 'L': 3}[f.Desc[0]], 0))
			}
		}
	}
	if !heap.Valid(b.m) {
		b.Fatal("not valid")
	}
}

// at returns the machine with a thread at one of the instructions.
func (b *bench) at(insn string, stack ...api.Value) api.Machine {
	b.Helper()
	k := slices.Index(b.insns, insn)
	m, _, e := callstack.NewThread(b.m, 0)
	if e == api.OK {
		m, e = callstack.Push(m, 0, b.id("T"), k, nil)
	}
	if e != api.OK {
		b.Fatal(insn, e)
	}
	m.Threads[0].Activations[0].Stack = stack
	if !heap.Valid(m) {
		b.Fatal("not valid", insn, stack)
	}
	return m
}

func (b *bench) expect(insn string, want api.Errno, after []api.Value, stack ...api.Value) api.Machine {
	b.Helper()
	m := b.at(insn, stack...)
	r, e := objectops.Execute(m, 0)
	if e != want || !heap.Valid(r) {
		b.Errorf("%s on %v: %d, want %d", insn, stack, e, want)
		return r
	}
	if e != api.OK {
		r.Space = m.Space
		if !reflect.DeepEqual(r, m) {
			b.Errorf("%s on %v: more than the class space has changed", insn, stack)
		}
		return r
	}
	top, _ := callstack.Top(r, 0)
	if !slices.Equal(top.Stack, after) || top.PC != 1 {
		b.Errorf("%s on %v: %v at %d, want %v", insn, stack, top.Stack, top.PC, after)
	}
	return r
}

func TestArrays(t *testing.T) { // P43.2, P43.3, P43.4
	b := newBench(t, "arraylength", "iaload", "laload", "aaload", "iastore", "lastore", "aastore", "newarray I", "newarray [LA;", "newarray LNowhere;", "newarray [[[[[[[[I")
	i, j, r := func(n int) api.Value { return v(1, n) }, func(n int) api.Value { return v(2, n) }, func(n int) api.Value { return v(3, n) }
	vals := func(l ...api.Value) []api.Value { return l }
	const null, bounds, cast, height, mismatch, store = api.ErrNullPointer, api.ErrIndexOutOfBounds, api.ErrClassCast, api.ErrStackHeight, api.ErrTypeMismatch, api.ErrArrayStore
	b.expect("arraylength", 0, vals(j(9), i(2)), j(9), r(3))
	b.expect("arraylength", null, nil, r(0))
	b.expect("arraylength", cast, nil, r(1))
	b.expect("arraylength", cast, nil, r(7))
	b.expect("arraylength", height, nil)
	b.expect("arraylength", mismatch, nil, i(3))
	b.expect("iaload", 0, vals(i(0)), r(3), i(1))
	b.expect("iaload", bounds, nil, r(3), i(2))
	b.expect("iaload", bounds, nil, r(3), i(-1))
	b.expect("iaload", null, nil, r(0), i(9))
	b.expect("iaload", cast, nil, r(4), i(0))
	b.expect("iaload", cast, nil, r(8), i(0))
	b.expect("iaload", cast, nil, r(1), i(0))
	b.expect("iaload", height, nil, i(1))
	b.expect("iaload", mismatch, nil, i(1), r(1))
	b.expect("laload", 0, vals(j(0)), r(4), i(0))
	b.expect("aaload", 0, vals(r(0)), r(8), i(0))
	b.expect("aaload", cast, nil, r(3), i(0))
	m := b.expect("iastore", 0, nil, r(3), i(1), i(7))
	if x, _ := heap.Get(m, 3, 1); x != i(7) {
		t.Error(x)
	}
	b.expect("iastore", mismatch, nil, r(3), i(1), j(7))
	b.expect("iastore", bounds, nil, r(3), i(2), i(7))
	b.expect("lastore", 0, nil, r(4), i(0), j(7))
	b.expect("lastore", mismatch, nil, r(4), j(0), j(7))
	m = b.expect("aastore", 0, nil, r(5), i(1), r(2))
	if x, _ := heap.Get(m, 5, 1); x != r(2) {
		t.Error(x)
	}
	b.expect("aastore", store, nil, r(6), i(0), r(1))
	b.expect("aastore", bounds, nil, r(6), i(1), r(1))
	b.expect("aastore", 0, nil, r(6), i(0), r(0))
	b.expect("aastore", 0, nil, r(8), i(0), r(3))
	b.expect("aastore", cast, nil, r(3), i(0), r(1))
	m = b.expect("newarray I", 0, vals(r(9)), i(3))
	if o, _ := heap.Object(m, 9); len(o.Values) != 3 || o.Type != (api.RuntimeType{Dim: 1, Base: 'I'}) {
		t.Error(o)
	}
	m = b.expect("newarray [LA;", 0, vals(r(9)), i(1))
	if o, _ := heap.Object(m, 9); o.Type != (api.RuntimeType{Dim: 2, Base: 'L', Class: b.id("A")}) {
		t.Error(o)
	}
	b.expect("newarray I", api.ErrArraySize, nil, i(-1))
	b.expect("newarray I", mismatch, nil, j(1))
	b.expect("newarray LNowhere;", api.ErrNoClass, nil, i(-1))
	b.expect("newarray [[[[[[[[I", api.ErrTooDeep, nil, i(-1))
	b.m.MaxObjects = 8
	b.expect("newarray I", api.ErrOutOfMemory, nil, i(1))
}

func TestFields(t *testing.T) { // P43.2, P43.3, P43.4
	b := newBench(t, "getfield A x I", "getfield B l J", "putfield A l J", "putfield A r LA;", "getfield B y I", "getfield A p I", "getfield A s I", "getstatic A x I", "getfield Nowhere x I")
	m := b.expect("putfield A l J", 0, nil, v(3, 2), v(2, 77))
	if x, _ := heap.Get(m, 2, 1); x != v(2, 77) {
		t.Error(x)
	}
	if x, _ := heap.Get(m, 1, 1); x != v(2, 0) {
		t.Error(x)
	}
	b.expect("getfield A x I", 0, []api.Value{v(1, 0)}, v(3, 1))
	b.expect("getfield B l J", 0, []api.Value{v(2, 0)}, v(3, 2))
	b.expect("getfield B l J", 0, []api.Value{v(2, 0)}, v(3, 1))
	b.expect("getfield B y I", api.ErrClassCast, nil, v(3, 1))
	b.expect("getfield A x I", api.ErrClassCast, nil, v(3, 5))
	b.expect("getfield A x I", api.ErrClassCast, nil, v(3, 7))
	b.expect("getfield A x I", api.ErrNullPointer, nil, v(3, 0))
	b.expect("putfield A l J", api.ErrNullPointer, nil, v(3, 0), v(2, 1))
	b.expect("putfield A l J", api.ErrTypeMismatch, nil, v(3, 2), v(1, 77))
	b.expect("putfield A l J", api.ErrStackHeight, nil, v(2, 77))
	b.expect("putfield A r LA;", 0, nil, v(3, 2), v(3, 1))
	b.expect("getfield A p I", api.ErrIllegalAccess, nil, v(3, 0))
	b.expect("getfield A s I", api.ErrIncompatibleChange, nil, v(3, 0))
	b.expect("getstatic A x I", api.ErrIncompatibleChange, nil)
	b.expect("getfield Nowhere x I", api.ErrNoClass, nil, v(3, 0))
}

func TestStatics(t *testing.T) { // P43.3, P43.4
	b := newBench(t, "getstatic A s I", "putstatic A sl J", "putstatic B sr LA;", "getstatic Bad s I", "getstatic A sl J")
	m := b.at("getstatic A s I")
	r, e := objectops.Execute(m, 0)
	if l := r.Threads[0].Activations; e != api.OK || len(l) != 3 || l[0].PC != 0 || l[1].Class != b.id("A") || !l[2].IsInit || !heap.Valid(r) {
		t.Error(l, e)
	}
	r = b.expect("getstatic Bad s I", api.ErrVerify, nil)
	m = b.at("getstatic Bad s I")
	if r, _ = objectops.Execute(m, 0); r.Space.Classes[b.id("Bad")].Stage != api.LinkFailed {
		t.Error("the class space of the last call")
	}
	b.ready("A")
	b.m.Init[b.id("A")].Statics = []api.Value{v(1, 5), v(2, 0), v(3, 0)}
	b.expect("getstatic A s I", 0, []api.Value{v(3, 1), v(1, 5)}, v(3, 1))
	b.expect("getstatic A s I", api.ErrStackHeight, nil, v(1, 1), v(1, 1), v(1, 1), v(1, 1))
	r = b.expect("putstatic A sl J", 0, nil, v(2, 9))
	if l := r.Init[b.id("A")].Statics; !slices.Equal(l, []api.Value{v(1, 5), v(2, 9), v(3, 0)}) || b.m.Init[b.id("A")].Statics[1] != v(2, 0) {
		t.Error(l)
	}
	b.expect("putstatic A sl J", api.ErrTypeMismatch, nil, v(1, 9))
	r = b.expect("putstatic B sr LA;", 0, nil, v(3, 2))
	if l := r.Init[b.id("A")].Statics; l[2] != v(3, 2) {
		t.Error(l)
	}
}

func TestCreationAndTests(t *testing.T) { // P43.1, P43.2, P43.3
	b := newBench(t, "new C", "new Abs", "new q/Hidden", "new Nowhere", "ldc string \"lit\"", "ldc int 5", "nop", "checkcast A", "checkcast [LA;", "checkcast Nowhere", "instanceof I", "instanceof lang/Object", "instanceof [LA;", "return")
	m := b.at("new C")
	r, e := objectops.Execute(m, 0)
	if l := r.Threads[0].Activations; e != api.OK || len(l) != 3 || l[0].PC != 0 || l[1].Class != b.id("C") {
		t.Error(l, e)
	}
	b.expect("new q/Hidden", api.ErrIllegalAccess, nil)
	b.expect("new Nowhere", api.ErrNoClass, nil)
	b.ready("C", "Abs")
	r = b.expect("new C", 0, []api.Value{v(3, 9)})
	if o, _ := heap.Object(r, 9); o.Type != b.class("C") {
		t.Error(o)
	}
	b.expect("new Abs", api.ErrAbstractMethod, nil)
	b.expect("new C", api.ErrStackHeight, nil, v(1, 1), v(1, 1), v(1, 1), v(1, 1))
	r = b.expect("ldc string \"lit\"", 0, []api.Value{v(3, 9)})
	if o, _ := heap.Object(r, 9); o.String != "lit" || len(r.Interned) != 1 {
		t.Error(o)
	}
	b.expect("ldc int 5", api.ErrBadOpcode, nil)
	b.expect("nop", api.ErrBadOpcode, nil)
	b.expect("checkcast A", 0, []api.Value{v(3, 2)}, v(3, 2))
	b.expect("checkcast A", 0, []api.Value{v(3, 0)}, v(3, 0))
	b.expect("checkcast A", api.ErrClassCast, nil, v(3, 3))
	b.expect("checkcast [LA;", 0, []api.Value{v(3, 6)}, v(3, 6))
	b.expect("checkcast [LA;", api.ErrClassCast, nil, v(3, 1))
	b.expect("checkcast Nowhere", api.ErrNoClass, nil, v(3, 0))
	b.expect("checkcast A", api.ErrTypeMismatch, nil, v(1, 0))
	b.expect("instanceof I", 0, []api.Value{v(1, 1)}, v(3, 2))
	b.expect("instanceof I", 0, []api.Value{v(1, 0)}, v(3, 1))
	b.expect("instanceof I", 0, []api.Value{v(1, 0)}, v(3, 0))
	b.expect("instanceof lang/Object", 0, []api.Value{v(1, 1)}, v(3, 3))
	b.expect("instanceof [LA;", 0, []api.Value{v(1, 1)}, v(3, 6))
	b.m.MaxObjects = 8
	b.expect("new C", api.ErrOutOfMemory, nil)
	b.expect("ldc string \"lit\"", api.ErrOutOfMemory, nil)
	for op := -2; op < api.NumOps+2; op++ {
		want := op == api.Ldc || op >= api.GetStatic && op <= api.PutField || op >= api.New && op <= api.InstanceOf
		if objectops.Handles(op) != want {
			t.Error(op)
		}
	}
	for k, want := range map[int]api.Errno{-1: api.ErrRange, 1: api.ErrRange} {
		if r, e := objectops.Execute(m, k); e != want || !reflect.DeepEqual(r, m) {
			t.Error(k, e)
		}
	}
}
