package callstack_test

import (
	"armature/api"
	"armature/callstack"
	"armature/classspace"
	"armature/heap"
	"armature/sample"
	"reflect"
	"slices"
	"testing"
)

const listing = `
class 1025 A extends lang/Object
method 9 f (I)V
code 2 2
nop
return
end
m 1 g (JLA;)V
m 1025 abs ()V
method 9 h (IJ)I
code 3 2
iload 0
ireturn
end
class 1 B extends A
m 1 abs ()V`

func v(kind, n int) api.Value { return api.Value{Kind: kind, N: n} }

func example(t *testing.T) (api.Machine, int) {
	t.Helper()
	w, e := sample.Loaded(sample.Root + listing)
	if e != api.OK {
		t.Fatal(e)
	}
	a, _ := classspace.FindLoaded(w, 0, "A")
	b, _ := classspace.FindLoaded(w, 0, "B")
	m := api.Machine{Space: w, MaxObjects: 10, Threads: []api.Thread{{}, {State: api.Terminated}}}
	m, _, e = heap.NewObject(m, b)
	if e != api.OK || !heap.Valid(m) {
		t.Fatal(e)
	}
	return m, a
}

func TestNewThread(t *testing.T) { // P39.1
	m, _ := example(t)
	for _, obj := range []int{-1, 2} {
		if r, n, e := callstack.NewThread(m, obj); e != api.ErrRange || n != 0 || !reflect.DeepEqual(r, m) {
			t.Error(obj, n, e)
		}
	}
	r, n, e := callstack.NewThread(m, 1)
	if e != api.OK || n != 2 || !reflect.DeepEqual(r.Threads[2], api.Thread{Object: 1}) || len(m.Threads) != 2 || !heap.Valid(r) {
		t.Error(n, e)
	}
	for len(r.Threads) < api.MaxThreads {
		r, _, _ = callstack.NewThread(r, 0)
	}
	if s, n, e := callstack.NewThread(r, 0); e != api.ErrTooMany || n != 0 || !reflect.DeepEqual(s, r) {
		t.Error(n, e)
	}
	if _, _, e := callstack.NewThread(r, 9); e != api.ErrRange {
		t.Error(e)
	}
}

func TestPush(t *testing.T) { // P39.2, P39.6
	m, a := example(t)
	r, e := callstack.Push(m, 0, a, 0, []api.Value{v(1, 7)})
	if e != api.OK || !heap.Valid(r) || !reflect.DeepEqual(r.Threads[0].Activations, []api.Activation{{Class: a, Locals: []api.Value{v(1, 7), {}}}}) {
		t.Fatal(r.Threads, e)
	}
	if r, e := callstack.Push(r, 0, a, 1, []api.Value{v(3, 1), v(2, 5), v(3, 0)}); e != api.OK || len(r.Threads[0].Activations) != 2 || !heap.Valid(r) {
		t.Error(e)
	}
	for k, x := range []struct {
		t, c, which int
		args        []api.Value
		e           api.Errno
	}{
		{2, a, 0, nil, api.ErrRange}, {-1, a, 0, nil, api.ErrRange}, {0, 99, 0, nil, api.ErrRange}, {1, a, 9, nil, api.ErrRange}, {1, a, 2, nil, api.ErrTerminated}, {0, a, 2, nil, api.ErrAbstractMethod}, {0, a, 0, nil, api.ErrTooMany}, {0, a, 0, []api.Value{v(1, 1), v(1, 1)}, api.ErrTooMany}, {0, a, 0, []api.Value{v(2, 1)}, api.ErrTypeMismatch}, {0, a, 0, []api.Value{v(1, 1<<31)}, api.ErrTypeMismatch}, {0, a, 1, []api.Value{v(3, 0), v(2, 1), v(3, 1)}, api.ErrTypeMismatch}, {0, a, 1, []api.Value{v(3, 1), v(2, 1), v(3, 9)}, api.ErrTypeMismatch}, {0, a, 1, []api.Value{v(3, 1), v(3, 1), v(2, 1)}, api.ErrTypeMismatch},
	} {
		if r, e := callstack.Push(m, x.t, x.c, x.which, x.args); e != x.e || !reflect.DeepEqual(r, m) {
			t.Error(k, e)
		}
	}
	for range 63 {
		r, _ = callstack.Push(r, 0, a, 0, []api.Value{v(1, 7)})
	}
	if s, e := callstack.Push(r, 0, a, 0, []api.Value{v(1, 7)}); e != api.ErrStackOverflow || !reflect.DeepEqual(s, r) || len(r.Threads[0].Activations) != 64 {
		t.Error(e)
	}
	if _, e := callstack.Push(r, 0, a, 0, []api.Value{v(3, 0)}); e != api.ErrTypeMismatch {
		t.Error(e)
	}
}

func TestTop(t *testing.T) { // P39.3, P39.4, P39.6
	m, a := example(t)
	for k, want := range map[int]api.Errno{-1: api.ErrRange, 2: api.ErrRange, 0: api.ErrTerminated, 1: api.ErrTerminated} {
		top, e1 := callstack.Top(m, k)
		r, e2 := callstack.ReplaceTop(m, k, api.Activation{Class: a, Method: -1, IsInit: true})
		s, x, e3 := callstack.Pop(m, k)
		i, e4 := callstack.CurrentInstruction(m, k)
		if e1 != want || e2 != want || e3 != want || e4 != want || !reflect.DeepEqual([]api.Activation{top, x}, make([]api.Activation, 2)) || !reflect.DeepEqual(r, m) || !reflect.DeepEqual(s, m) || i.Op != 0 {
			t.Error(k, e1, e2, e3, e4)
		}
	}
	one, _ := callstack.Push(m, 0, a, 3, []api.Value{v(1, 7), v(2, 8)})
	two, _ := callstack.Push(one, 0, a, 0, []api.Value{v(1, 7)})
	if x, e := callstack.Top(two, 0); e != api.OK || x.Method != 0 {
		t.Error(x, e)
	}
	if i, e := callstack.CurrentInstruction(one, 0); e != api.OK || i.Op != api.ILoad {
		t.Error(i, e)
	}
	fresh := api.Activation{Class: a, Method: 0, PC: 1, Locals: []api.Value{v(3, 1), {}}, Stack: []api.Value{v(1, 1), v(1, 2)}}
	r, e := callstack.ReplaceTop(two, 0, fresh)
	if x, _ := callstack.Top(r, 0); e != api.OK || !reflect.DeepEqual(x, fresh) || !heap.Valid(r) || !reflect.DeepEqual(r.Threads[0].Activations[0], one.Threads[0].Activations[0]) || two.Threads[0].Activations[1].PC != 0 {
		t.Error(e)
	}
	for k, f := range []func(*api.Activation){func(x *api.Activation) { x.PC = 2 }, func(x *api.Activation) { x.Stack = append(x.Stack, v(1, 1)) }, func(x *api.Activation) { x.Locals = nil }, func(x *api.Activation) { x.Lock = 9 }, func(x *api.Activation) { x.Method = 2 }, func(x *api.Activation) { x.Class = -1 }, func(x *api.Activation) { x.Stack = []api.Value{{}} }} {
		x := fresh
		x.Stack, x.Locals = slices.Clone(x.Stack), slices.Clone(x.Locals)
		f(&x)
		if s, e := callstack.ReplaceTop(two, 0, x); e != api.ErrBadArgument || !reflect.DeepEqual(s, two) {
			t.Error(k, e)
		}
	}
	if s, x, e := callstack.Pop(two, 0); e != api.OK || !reflect.DeepEqual(s, one) || x.Method != 0 {
		t.Error(e)
	}
	s, _, _ := callstack.Pop(two, 0)
	s1, _ := callstack.Push(s, 0, a, 3, []api.Value{v(1, 1), v(2, 1)})
	if two.Threads[0].Activations[1].Method != 0 || s1.Threads[0].Activations[1].Method != 3 {
		t.Error("the lists share their ends")
	}
	wait, e := callstack.ReplaceTop(one, 0, api.Activation{Class: a, Method: -2})
	if _, e2 := callstack.CurrentInstruction(wait, 0); e != api.OK || e2 != api.ErrRange {
		t.Error(e, e2)
	}
}

func TestPopArguments(t *testing.T) { // P39.5, P39.6
	m, a := example(t)
	x := api.Activation{Class: -9, Stack: []api.Value{v(1, 1), v(1, 7)}, Lock: 5}
	args, rest, e := callstack.PopArguments(m, a, 0, x)
	if e != api.OK || !slices.Equal(args, []api.Value{v(1, 7)}) || !slices.Equal(rest.Stack, []api.Value{v(1, 1)}) || rest.Class != -9 || rest.Lock != 5 || !slices.Equal(append(rest.Stack, args...), x.Stack) {
		t.Error(args, rest, e)
	}
	for k, y := range []struct {
		c, which int
		stack    []api.Value
		e        api.Errno
	}{{99, 0, nil, api.ErrRange}, {a, 9, nil, api.ErrRange}, {a, 0, nil, api.ErrStackHeight}, {a, 1, []api.Value{v(2, 1), v(3, 1)}, api.ErrStackHeight}, {a, 1, []api.Value{v(2, 1), v(2, 1), v(3, 1)}, api.ErrTypeMismatch}, {a, 3, []api.Value{v(2, 1), v(1, 1)}, api.ErrTypeMismatch}} {
		x := api.Activation{Stack: y.stack}
		if args, rest, e := callstack.PopArguments(m, y.c, y.which, x); e != y.e || args != nil || !reflect.DeepEqual(rest, x) {
			t.Error(k, args, rest, e)
		}
	}
	x.Stack = []api.Value{v(3, 0), v(2, 4), v(3, 77)}
	if args, rest, e := callstack.PopArguments(m, a, 1, x); e != api.OK || len(args) != 3 || len(rest.Stack) != 0 {
		t.Error("only the kinds count", args, rest, e)
	}
}
