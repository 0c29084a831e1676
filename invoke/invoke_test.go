package invoke_test

import (
	"armature/api"
	"armature/callstack"
	"armature/classspace"
	"armature/heap"
	"armature/invoke"
	"armature/load"
	"armature/sample"
	"reflect"
	"slices"
	"strconv"
	"strings"
	"testing"
)

const listing = `class 1537 I extends lang/Object
m 1025 i ()I
m 1 d ()I
class 1 A extends lang/Object
implements I
m 1 <init> ()V
m 9 st (I)I
m 9 vo ()V
m 1 vi (J)J
m 1 i ()I
m 33 sy ()V
m 2 priv ()V
m 257 nat ()V
class 1 B extends A
m 1 <init> ()V
m 1 vi (J)J
class 1025 Abs extends lang/Object
m 1025 ab ()V
m 1 <init> ()V
class 1 Cold extends lang/Object
m 9 st ()V`

type bench struct {
	*testing.T
	m     api.Machine
	insns []string
}

func v(kind, n int) api.Value { return api.Value{Kind: kind, N: n} }

type values = []api.Value

// newBench has a class T extends B with one method for each instruction; objects 1: A, 2: B, 3: T, 4: int[], 5: Cold.
func newBench(t *testing.T, insns ...string) *bench {
	t.Helper()
	s := listing + "\nclass 1 T extends B\n"
	for i, x := range insns {
		d := "()V"
		if f := strings.Fields(x); strings.HasSuffix(f[0], "return") && len(f) > 1 {
			d, x = f[1], f[0]
		}
		s += "method 9 t" + strconv.Itoa(i) + " " + d + "\ncode 3 1\n" + x + "\nreturn\nend\n"
	}
	m, e := sample.Machine(20, strings.TrimSpace(s))
	if e != api.OK {
		t.Fatal(e)
	}
	b := &bench{t, m, insns}
	for _, s := range []string{"A", "B", "T", "", "Cold"} {
		if s == "" {
			b.m, _, e = heap.NewArray(b.m, api.RuntimeType{Base: 'I'}, 1)
		} else {
			b.m, _, e = heap.NewObject(b.m, b.id(s))
		}
		if e != api.OK {
			t.Fatal(e)
		}
	}
	b.m.Init = make([]api.InitRecord, b.id("A")+1)
	b.m.Init[b.id("A")].State = api.Initialized
	return b
}

func (b *bench) id(s string) int {
	b.Helper()
	c, ok := classspace.FindLoaded(b.m.Space, 0, s)
	if !ok {
		b.Fatal(s)
	}
	return c
}

func (b *bench) at(insn string, stack ...api.Value) api.Machine {
	b.Helper()
	m := b.m
	m.Threads = []api.Thread{{}, {}}
	m, e := callstack.Push(m, 0, b.id("T"), slices.Index(b.insns, insn), nil)
	if e != api.OK {
		b.Fatal(insn, e)
	}
	m.Threads[0].Activations[0].Stack = stack
	if !heap.Valid(m) {
		b.Fatal("not valid", insn, stack)
	}
	return m
}

func (b *bench) fails(insn string, want api.Errno, stack ...api.Value) {
	b.Helper()
	m := b.at(insn, stack...)
	r, e := invoke.Execute(m, 0)
	if e != want || !heap.Valid(r) {
		b.Errorf("%s on %v: %d, want %d", insn, stack, e, want)
	}
	r.Space = m.Space
	if !reflect.DeepEqual(r, m) {
		b.Errorf("%s on %v: more than the class space has changed", insn, stack)
	}
}

// calls expects a new activation of a method, with the arguments as its first locals.
func (b *bench) calls(insn, class, name string, rest, args values, stack ...api.Value) api.Machine {
	b.Helper()
	r, e := invoke.Execute(b.at(insn, stack...), 0)
	l := r.Threads[0].Activations
	if e != api.OK || len(l) != 2 || !heap.Valid(r) {
		b.Errorf("%s on %v: %d", insn, stack, e)
		return r
	}
	u := r.Space.Classes[l[1].Class].Model
	if u.Name != class || u.Methods[l[1].Method].Name != name || !slices.Equal(l[1].Locals[:len(args)], args) || l[0].PC != 1 || !slices.Equal(l[0].Stack, rest) || l[1].PC != 0 || len(l[1].Stack) != 0 {
		b.Errorf("%s on %v: %s %+v", insn, stack, u.Name, l)
	}
	return r
}

func TestCalls(t *testing.T) { // P46.1, P46.3, P46.6
	b := newBench(t, "invokestatic A st (I)I", "invokevirtual A vi (J)J", "invokeinterface I i ()I", "invokeinterface I d ()I", "invokespecial B vi (J)J", "invokespecial A vi (J)J", "invokespecial A <init> ()V", "invokevirtual A sy ()V", "invokevirtual lang/Object notify ()V", "invokevirtual A i ()I", "invokespecial I d ()I iface")
	r3, j := v(3, 3), v(2, 5)
	b.calls("invokestatic A st (I)I", "A", "st", values{v(1, 1)}, values{v(1, 7)}, v(1, 1), v(1, 7))
	b.calls("invokevirtual A vi (J)J", "B", "vi", nil, values{r3, j}, r3, j)
	b.calls("invokevirtual A vi (J)J", "A", "vi", nil, values{v(3, 1), j}, v(3, 1), j)
	b.calls("invokeinterface I i ()I", "A", "i", values{j}, values{r3}, j, r3)
	b.calls("invokeinterface I d ()I", "I", "d", nil, values{r3}, r3)
	b.calls("invokespecial B vi (J)J", "B", "vi", nil, values{r3, j}, r3, j)
	b.calls("invokespecial A vi (J)J", "B", "vi", nil, values{r3, j}, r3, j)
	b.calls("invokespecial A <init> ()V", "A", "<init>", nil, values{v(3, 1)}, v(3, 1))
	b.calls("invokespecial I d ()I iface", "I", "d", nil, values{r3}, r3)
	r := b.calls("invokevirtual A sy ()V", "A", "sy", nil, values{v(3, 2)}, v(3, 2))
	if o := r.Heap[1]; o.Owner != 1 || o.Count != 1 || r.Threads[0].Activations[1].Lock != 2 {
		t.Error(o)
	}
	b.m.Heap[1].Owner, b.m.Heap[1].Count = 2, 1
	m := b.at("invokevirtual A sy ()V", v(3, 2))
	r, e := invoke.Execute(m, 0)
	if x := r.Threads[0]; e != api.OK || x.State != api.Blocked || x.Monitor != 2 || !reflect.DeepEqual(x.Activations, m.Threads[0].Activations) || !heap.Valid(r) {
		t.Error(x, e)
	}
	b.m.Heap[3].Owner, b.m.Heap[3].Count = 1, 1
	r, e = invoke.Execute(b.at("invokevirtual lang/Object notify ()V", j, v(3, 4)), 0)
	if top := r.Threads[0].Activations[0]; e != api.OK || top.PC != 1 || !slices.Equal(top.Stack, values{j}) {
		t.Error(top, e)
	}
	for op := -2; op < api.NumOps+2; op++ {
		if want := op >= api.IReturn && op <= api.Return || op >= api.InvokeVirtual && op <= api.InvokeInterface; invoke.Handles(op) != want {
			t.Error(op)
		}
	}
}

func TestCallErrors(t *testing.T) { // P46.2, P46.3
	b := newBench(t, "invokestatic A st (I)I", "invokevirtual A vi (J)J", "invokestatic A vi (J)J", "invokevirtual A st (I)I", "invokeinterface A i ()I", "invokestatic Nowhere f ()V", "invokestatic A none ()V", "invokevirtual A priv ()V", "invokevirtual A nat ()V", "invokevirtual Abs ab ()V", "invokestatic Cold st ()V", "nop", "invokevirtual Cold none ()V", "invokestatic A vo ()V", "invokeinterface I i ()I", "invokevirtual lang/String length ()I")
	j := v(2, 5)
	b.fails("invokestatic Nowhere f ()V", api.ErrNoClass)
	b.fails("invokestatic A none ()V", api.ErrNoMethod)
	b.fails("invokeinterface A i ()I", api.ErrIncompatibleChange)
	b.fails("invokevirtual A priv ()V", api.ErrIllegalAccess)
	b.fails("invokestatic A vi (J)J", api.ErrIncompatibleChange)
	b.fails("invokevirtual A st (I)I", api.ErrIncompatibleChange)
	b.fails("invokestatic A st (I)I", api.ErrStackHeight)
	b.fails("invokestatic A st (I)I", api.ErrTypeMismatch, j)
	b.fails("invokevirtual A vi (J)J", api.ErrTypeMismatch, j, j)
	b.fails("invokevirtual A vi (J)J", api.ErrNullPointer, v(3, 0), j)
	b.fails("invokevirtual A vi (J)J", api.ErrClassCast, v(3, 5), j)
	b.fails("invokevirtual A vi (J)J", api.ErrClassCast, v(3, 4), j)
	b.fails("invokeinterface I i ()I", api.ErrClassCast, v(3, 5))
	b.fails("invokevirtual A nat ()V", api.ErrNoNative, v(3, 1))
	b.fails("invokevirtual Abs ab ()V", api.ErrNullPointer, v(3, 0))
	b.fails("nop", api.ErrBadOpcode)
	r, e := invoke.Execute(b.at("invokestatic Cold st ()V", j), 0)
	if l := r.Threads[0].Activations; e != api.OK || len(l) != 3 || l[0].PC != 0 || !slices.Equal(l[0].Stack, values{j}) || !l[2].IsInit || !heap.Valid(r) {
		t.Error(l, e)
	}
	m := b.at("invokestatic A st (I)I", v(1, 1))
	m.Threads[0].Activations = slices.Repeat(m.Threads[0].Activations, 64)
	if r, e := invoke.Execute(m, 0); e != api.ErrStackOverflow || !reflect.DeepEqual(r.Threads, m.Threads) {
		t.Error(e)
	}
	for k, want := range map[int]api.Errno{-1: api.ErrRange, 2: api.ErrRange, 1: api.ErrTerminated} {
		if r, e := invoke.Execute(m, k); e != want || !reflect.DeepEqual(r, m) {
			t.Error(k, e)
		}
	}
	low := b.at("invokestatic A vo ()V")
	low.Space.Classes = slices.Clone(low.Space.Classes)
	if _, e := invoke.Execute(low, 0); e != api.OK {
		t.Error(e)
	}
}

func TestResultHeight(t *testing.T) { // P46.3
	m, e := sample.Machine(9, "class 1 A extends lang/Object\nm 9 f ()I\nclass 1 T extends lang/Object\nmethod 9 g ()V\ncode 1 0\ninvokestatic A f ()I\nreturn\nend")
	if e != api.OK {
		t.Fatal(e)
	}
	c, _ := classspace.FindLoaded(m.Space, 0, "T")
	m.Threads = []api.Thread{{Activations: []api.Activation{{Class: c, Stack: values{v(1, 1)}}}}}
	if r, e := invoke.Execute(m, 0); e != api.ErrStackHeight || !reflect.DeepEqual(r.Threads, m.Threads) {
		t.Error(e)
	}
}

func TestSpecialConstraints(t *testing.T) { // P46.3
	m, e := sample.Machine(9, "class 1 A extends lang/Object\nm 1 <init> ()V\nm 1 f (LZ;)V\nclass 1 Z extends lang/Object", "to A 0\nclass 1 B extends A\nm 1 f (LZ;)V", "to A 0\nto B 1\nclass 1 C extends B\nmethod 1 g (LZ;)V\ncode 2 2\ninvokespecial A f (LZ;)V\nreturn\nend")
	if e != api.OK {
		t.Fatal(e)
	}
	c, _ := classspace.FindLoaded(m.Space, 2, "C")
	if m.Space, _, e = load.Load(m.Space, 2, "A"); e != api.OK {
		t.Fatal(e)
	}
	m, n, e := heap.NewObject(m, c)
	if e != api.OK {
		t.Fatal(e)
	}
	m.Threads = []api.Thread{{Activations: []api.Activation{{Class: c, Locals: make(values, 2), Stack: values{v(3, n), v(3, 0)}}}}}
	r, e := invoke.Execute(m, 0)
	if e != api.OK || !slices.Equal(r.Space.Constraints, []api.Constraint{{Name: "Z", A: 2, B: 0}, {Name: "Z", A: 2, B: 1}}) || r.Space.Classes[r.Threads[0].Activations[1].Class].Model.Name != "B" {
		t.Error(r.Space.Constraints, e)
	}
}

func TestReturns(t *testing.T) { // P46.4, P46.5, P46.6
	b := newBench(t, "ireturn ()I", "lreturn ()J", "areturn ()LA;", "return ()V", "ireturn ()J", "return ()I", "areturn ()V", "areturn ()[I")
	b.fails("ireturn ()J", api.ErrReturnKind, v(1, 1))
	b.fails("return ()I", api.ErrReturnKind, v(1, 1))
	b.fails("areturn ()V", api.ErrReturnKind, v(3, 1))
	b.fails("ireturn ()I", api.ErrStackHeight)
	b.fails("ireturn ()I", api.ErrTypeMismatch, v(1, 1), v(2, 1))
	for insn, x := range map[string]api.Value{"ireturn ()I": v(1, -8), "lreturn ()J": v(2, 1<<40), "areturn ()LA;": v(3, 2), "areturn ()[I": v(3, 4), "return ()V": {}} {
		stack := values{v(1, 5)}
		if x.Kind != 0 {
			stack = append(stack, x)
		}
		m := b.at(insn, stack...)
		r, e := invoke.Execute(m, 0)
		if e != api.OK || !reflect.DeepEqual(r.Threads[0], api.Thread{State: api.Terminated, Result: x}) {
			t.Error(insn, r.Threads[0], e)
		}
		below := m.Threads[0].Activations[0]
		below.Stack, below.PC = values{v(2, 2)}, 1
		for _, drop := range []bool{false, true} {
			top := m.Threads[0].Activations[0]
			top.DropResult = drop
			n := m
			n.Threads = []api.Thread{{Activations: []api.Activation{below, top}}}
			r, e := invoke.Execute(n, 0)
			want := values{v(2, 2)}
			if x.Kind != 0 && !drop {
				want = append(want, x)
			}
			if l := r.Threads[0].Activations; e != api.OK || len(l) != 1 || !slices.Equal(l[0].Stack, want) || l[0].PC != 1 || !heap.Valid(r) {
				t.Error(insn, l, e)
			}
			n.Threads[0].Activations = n.Threads[0].Activations[1:]
			if r, e := invoke.Execute(n, 0); e != api.OK || r.Threads[0].Result != x {
				t.Error("the last activation", insn, r.Threads[0], e)
			}
		}
	}
	m := b.at("return ()V")
	m.Threads[0].Activations[0].Lock = 2
	if r, e := invoke.Execute(m, 0); e != api.ErrMonitorOwner || !reflect.DeepEqual(r, m) {
		t.Error(e)
	}
	m.Heap = slices.Clone(m.Heap)
	m.Heap[1].Owner, m.Heap[1].Count = 1, 1
	if r, e := invoke.Execute(m, 0); e != api.OK || r.Heap[1].Owner != 0 {
		t.Error(e)
	}
	m = b.at("return ()V")
	m.Threads[0].Activations[0].IsInit = true
	if r, e := invoke.Execute(m, 0); e != api.ErrBadArgument || !reflect.DeepEqual(r, m) {
		t.Error(e)
	}
	m.Init = make([]api.InitRecord, b.id("T")+1)
	m.Init[b.id("T")].State = api.Initializing
	if r, e := invoke.Execute(m, 0); e != api.OK || r.Init[b.id("T")].State != api.Initialized || r.Threads[0].State != api.Terminated {
		t.Error(e)
	}
}

func TestReturnValue(t *testing.T) { // P46.5
	b := newBench(t, "return ()V")
	m := b.at("return ()V", v(1, 1), v(1, 1))
	full := b.at("return ()V", v(1, 1), v(1, 1), v(1, 1))
	ended, blocked, wait := m, m, m
	ended.Threads = []api.Thread{{State: api.Terminated}}
	blocked.Threads = []api.Thread{{State: api.Blocked, Monitor: 1, Activations: m.Threads[0].Activations}}
	wait.Threads = []api.Thread{{Activations: []api.Activation{{Class: 0, Method: -2}}}}
	for k, x := range []struct {
		m api.Machine
		t int
		v api.Value
		e api.Errno
	}{{m, -1, v(9, 9), api.ErrRange}, {m, 2, v(1, 1), api.ErrRange}, {ended, 0, v(9, 9), api.ErrTerminated}, {blocked, 0, v(9, 9), api.ErrBlocked}, {m, 0, v(9, 9), api.ErrTypeMismatch}, {m, 0, v(3, 99), api.ErrTypeMismatch}, {m, 0, v(0, 1), api.ErrTypeMismatch}, {full, 0, v(1, 1), api.ErrStackHeight}, {wait, 0, v(1, 1), api.ErrStackHeight}, {full, 0, api.Value{}, api.OK}, {wait, 0, api.Value{}, api.OK}} {
		if r, e := invoke.ReturnValue(x.m, x.t, x.v); e != x.e || !reflect.DeepEqual(r, x.m) {
			t.Error(k, e)
		}
	}
	if r, e := invoke.ReturnValue(m, 0, v(2, 9)); e != api.OK || !slices.Equal(r.Threads[0].Activations[0].Stack, values{v(1, 1), v(1, 1), v(2, 9)}) {
		t.Error(e)
	}
	if r, e := invoke.ReturnValue(m, 1, v(2, 9)); e != api.OK || !reflect.DeepEqual(r.Threads[1], api.Thread{State: api.Terminated, Result: v(2, 9)}) || !heap.Valid(r) {
		t.Error(e)
	}
}
