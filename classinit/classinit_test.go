package classinit_test

import (
	"armature/api"
	"armature/classinit"
	"armature/classspace"
	"armature/heap"
	"armature/intern"
	"armature/sample"
	"reflect"
	"slices"
	"strconv"
	"testing"
)

const listing = `
class 1537 I extends lang/Object
field 25 k I = int 3
class 1 A extends lang/Object
field 8 s Llang/String; = string "text"
field 8 n J = long 4
field 8 r LA;
method 8 <clinit> ()V
code 1 2
nop
return
end
class 1 B extends A
field 8 t Llang/String; = string "text"
field 8 u Llang/String; = string "other"
class 1 C extends B
class 1 Bad extends A
method 9 f ()I
code 1 0
aconstnull
ireturn
end
class 1 M extends lang/Object
method 9 m ()V
code 1 1
return
end
class 1 Uses extends lang/Object
implements I`

func example(t *testing.T, extra string) (api.Machine, func(string) int) {
	t.Helper()
	w, e := sample.Loaded(sample.Root + listing + extra)
	if e != api.OK {
		t.Fatal(e)
	}
	id := func(s string) int {
		c, ok := classspace.FindLoaded(w, 0, s)
		if !ok {
			t.Fatal(s)
		}
		return c
	}
	frame := api.Activation{Class: id("M"), Locals: []api.Value{{}}}
	m := api.Machine{Space: w, MaxObjects: 10, Threads: []api.Thread{{Activations: []api.Activation{frame}}, {Activations: []api.Activation{frame}}, {State: api.Terminated}}}
	if !heap.Valid(m) {
		t.Fatal("not valid")
	}
	return m, id
}

func ensure(t *testing.T, m api.Machine, thread, c int, want bool) api.Machine {
	t.Helper()
	r, ok, e := classinit.Ensure(m, thread, c)
	if e != api.OK || ok != want || !heap.Valid(r) {
		t.Fatal(c, ok, e)
	}
	return r
}

func complete(t *testing.T, m api.Machine, thread int) api.Machine {
	t.Helper()
	r, e := classinit.Complete(m, thread)
	if e != api.OK || !heap.Valid(r) {
		t.Fatal(e)
	}
	return r
}

func TestChain(t *testing.T) { // P40.1, P40.2, P40.3, P40.5, P40.6, P40.7
	m, id := example(t, "")
	m = ensure(t, m, 0, id("C"), false)
	l := m.Threads[0].Activations[1:]
	clinit := api.Activation{Class: id("A"), Method: 0, IsInit: true, Locals: make([]api.Value, 2)}
	root := m.Threads[0].Activations[4]
	if len(l) != 4 || !reflect.DeepEqual(l[2], clinit) || root.Class != id("lang/Object") || root.Method != -1 || !reflect.DeepEqual(l[0], api.Activation{Class: id("C"), Method: -1, IsInit: true}) || l[1].Class != id("B") {
		t.Fatalf("%+v", l)
	}
	text, _ := intern.Lookup(m, "text")
	other, _ := intern.Lookup(m, "other")
	a := classinit.State(m, id("A"))
	if a.State != api.Initializing || a.Thread != 0 || !slices.Equal(a.Statics, []api.Value{{Kind: 3, N: text}, {Kind: 2, N: 4}, {Kind: 3}}) || text == 0 {
		t.Error(a)
	}
	if b := classinit.State(m, id("B")); !slices.Equal(b.Statics, []api.Value{{Kind: 3, N: text}, {Kind: 3, N: other}}) {
		t.Error(b)
	}
	for _, c := range []string{"C", "B", "A", "lang/Object"} {
		if s := m.Space.Classes[id(c)].Stage; s != api.Linked {
			t.Error(c, s)
		}
		if r := ensure(t, m, 0, id(c), true); !reflect.DeepEqual(r, m) {
			t.Error(c)
		}
	}
	for range 4 {
		m = complete(t, m, 0)
	}
	if r := ensure(t, m, 1, id("C"), true); !reflect.DeepEqual(r, m) || len(m.Threads[0].Activations) != 1 {
		t.Error("not initialized")
	}
	if s := classinit.State(m, id("A")); s.State != api.Initialized || s.Thread != 0 || len(s.Statics) != 3 {
		t.Error(s)
	}
	if s := classinit.State(m, id("Bad")); s.State != 0 || s.Statics != nil {
		t.Error(s)
	}
	for _, c := range []int{-1, 99} {
		if s := classinit.State(m, c); s.State != 0 {
			t.Error(c, s)
		}
	}
}

func TestInterface(t *testing.T) { // P40.2
	m, id := example(t, "")
	m = ensure(t, m, 1, id("I"), false)
	if l := m.Threads[1].Activations; len(l) != 2 || l[1].Class != id("I") || classinit.State(m, id("I")).Thread != 1 || !slices.Equal(m.Init[id("I")].Statics, []api.Value{{Kind: 1, N: 3}}) {
		t.Error(l)
	}
	m = ensure(t, m, 0, id("Uses"), false)
	if l := m.Threads[0].Activations; len(l) != 3 || l[1].Class != id("Uses") || l[2].Class != id("lang/Object") {
		t.Error(l)
	}
}

func TestErrors(t *testing.T) { // P40.2
	m, id := example(t, "")
	for _, x := range []struct {
		t, c int
		e    api.Errno
	}{{-1, 0, api.ErrRange}, {3, 0, api.ErrRange}, {0, -1, api.ErrRange}, {2, 99, api.ErrRange}, {2, 0, api.ErrTerminated}} {
		if r, ok, e := classinit.Ensure(m, x.t, x.c); e != x.e || ok || !reflect.DeepEqual(r, m) {
			t.Error(x, ok, e)
		}
	}
	r, ok, e := classinit.Ensure(m, 0, id("Bad"))
	if e != api.ErrVerify || ok || r.Space.Classes[id("Bad")].Stage != api.LinkFailed || r.Space.Classes[id("A")].Stage != api.Linked || !reflect.DeepEqual(r.Threads, m.Threads) || len(r.Init) != 0 {
		t.Error(ok, e)
	}
	m.MaxObjects = 1
	r, ok, e = classinit.Ensure(m, 0, id("B"))
	if e != api.ErrOutOfMemory || ok || r.Space.Classes[id("B")].Stage != api.Linked || len(r.Init)+len(r.Heap)+len(r.Interned) != 0 || len(r.Threads[0].Activations) != 1 {
		t.Error(ok, e)
	}
}

func TestStackOverflow(t *testing.T) { // P40.2
	m, id := example(t, "")
	frame := m.Threads[0].Activations[0]
	fill := func(n int) api.Machine {
		r := m
		r.Threads = slices.Clone(m.Threads)
		r.Threads[0].Activations = slices.Repeat([]api.Activation{frame}, n)
		return r
	}
	if r, ok, e := classinit.Ensure(fill(62), 0, id("B")); e != api.ErrStackOverflow || ok || r.Space.Classes[id("B")].Stage != api.Linked || len(r.Threads[0].Activations) != 62 || len(r.Init) != 0 {
		t.Error(ok, e)
	}
	ensure(t, fill(61), 0, id("B"), false)
	busy := fill(64)
	busy.Init = make([]api.InitRecord, id("M")+1)
	busy.Init[id("M")] = api.InitRecord{State: api.Initializing, Thread: 1}
	if r, ok, e := classinit.Ensure(busy, 0, id("M")); e != api.ErrStackOverflow || ok || !reflect.DeepEqual(r, busy) {
		t.Error(ok, e)
	}
	s := ""
	for i := range 70 {
		super := "lang/Object"
		if i > 0 {
			super = "D" + strconv.Itoa(i-1)
		}
		if i < 50 {
			s += "\nclass 1 D" + strconv.Itoa(i) + " extends " + super
		}
	}
	deep, id := example(t, s)
	deep = ensure(t, deep, 0, id("D49"), false)
	if n := len(deep.Threads[0].Activations); n != 52 {
		t.Error(n)
	}
}

func TestTwoThreads(t *testing.T) { // P40.2, P40.4, P40.6
	m, id := example(t, "")
	m = ensure(t, m, 0, id("A"), false)
	m = ensure(t, m, 1, id("C"), false)
	l := m.Threads[1].Activations
	if len(l) != 4 || l[1].Class != id("C") || !reflect.DeepEqual(l[3], api.Activation{Class: id("A"), Method: -2}) {
		t.Fatal(l)
	}
	m = ensure(t, m, 0, id("C"), false)
	if l := m.Threads[0].Activations; !reflect.DeepEqual(l[len(l)-1], api.Activation{Class: id("C"), Method: -2}) {
		t.Fatal(l)
	}
	if r, e := classinit.Await(m, 1); e != api.ErrBlocked || !reflect.DeepEqual(r, m) {
		t.Error(e)
	}
	if r, e := classinit.Complete(m, 1); e != api.ErrBadArgument || !reflect.DeepEqual(r, m) {
		t.Error(e)
	}
	failed := m
	failed.Init = slices.Clone(m.Init)
	failed.Init[id("A")].State, failed.Init[id("A")].Thread = api.InitFailed, 0
	if r, e := classinit.Await(failed, 1); e != api.ErrInitFailed || len(r.Threads[1].Activations) != 3 || !heap.Valid(r) {
		t.Error(e)
	}
	done := m
	done.Init = slices.Clone(m.Init)
	done.Init[id("A")].State = api.Initialized
	if r, e := classinit.Await(done, 1); e != api.OK || len(r.Threads[1].Activations) != 3 || !heap.Valid(r) {
		t.Error(e)
	}
}

func TestFail(t *testing.T) { // P40.2, P40.3, P40.5
	m, id := example(t, "")
	m = ensure(t, m, 0, id("A"), false)
	m = complete(t, m, 0)
	if r, e := classinit.Await(m, 0); e != api.ErrBadArgument || !reflect.DeepEqual(r, m) {
		t.Error(e)
	}
	r, e := classinit.Fail(m, 0)
	if s := classinit.State(r, id("A")); e != api.OK || s.State != api.InitFailed || s.Thread != 0 || len(s.Statics) != 3 || !heap.Valid(r) {
		t.Error(s, e)
	}
	for _, c := range []string{"A", "B"} {
		s, ok, e := classinit.Ensure(r, 1, id(c))
		if e != api.ErrInitFailed || ok || !reflect.DeepEqual(s.Threads, r.Threads) || s.Space.Classes[id(c)].Stage != api.Linked || !reflect.DeepEqual(s.Init, r.Init) {
			t.Error(c, ok, e)
		}
	}
	for _, f := range []func(api.Machine, int) (api.Machine, api.Errno){classinit.Complete, classinit.Fail, classinit.Await} {
		for k, want := range map[int]api.Errno{-1: api.ErrRange, 3: api.ErrRange, 2: api.ErrTerminated, 0: api.ErrBadArgument} {
			if s, e := f(r, k); e != want || !reflect.DeepEqual(s, r) {
				t.Error(k, e)
			}
		}
	}
	other := m
	other.Init = slices.Clone(m.Init)
	other.Init[id("A")].Thread = 1
	if s, e := classinit.Complete(other, 0); e != api.ErrBadArgument || !reflect.DeepEqual(s, other) {
		t.Error(e)
	}
}
