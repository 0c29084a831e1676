package machine_test

import (
	"armature/api"
	"armature/builtin"
	"armature/callstack"
	"armature/heap"
	"armature/machine"
	"armature/sample"
	"reflect"
	"slices"
	"testing"
)

const listing = `class 1 M extends lang/Object
m 9 main ()V
class 1 None extends lang/Object
m 9 main (I)V
class 1 Priv extends lang/Object
m 8 main ()V
class 1 Inst extends lang/Object
m 1 main ()V
class 1 Nat extends lang/Object
m 265 main ()V
class 1 Bad extends lang/Object
m 9 main ()V
method 9 f ()I
code 1 0
aconstnull
ireturn
end
class 1 Thrower extends lang/Object
method 9 main ()V
code 2 0
push 1
push 0
idiv
pop
return
end
class 1 Loop extends lang/Object
method 9 main ()V
code 2 0
new lang/Object
pop
goto 0
end
class 1 Waiter extends lang/Object
method 9 main ()V
code 3 0
new lang/Object
dup
invokespecial lang/Object <init> ()V
dup
monitorenter
invokevirtual lang/Object wait ()V
return
end`

func newMachine(t *testing.T, room int) api.Machine {
	t.Helper()
	l, e := sample.Loaders(listing, "")
	if e != api.OK {
		t.Fatal(e)
	}
	m, e := machine.New(l, room)
	want, f := builtin.NewMachine(l, room)
	if e != api.OK || f != api.OK || !reflect.DeepEqual(m, want) {
		t.Fatal(e)
	}
	return m
}

func start(t *testing.T, m api.Machine, s string) api.Machine {
	t.Helper()
	r, n, e := machine.StartMain(m, 0, s)
	if e != api.OK || n != len(m.Threads) || !heap.Valid(r) {
		t.Fatal(s, n, e)
	}
	return r
}

func TestStartMain(t *testing.T) { // P52.1, P52.2
	m := newMachine(t, 100)
	r := start(t, m, "M")
	if l := r.Threads[0].Activations; len(l) != 3 || l[0].Method != 0 || !l[1].IsInit || !l[2].IsInit || r.Threads[0].Object != 0 {
		t.Error(l)
	}
	r, n, e := machine.RunThread(r, 0, 100)
	if n != 3 || e != api.OK || !slices.Equal(machine.ThreadStatus(r), []string{"done"}) {
		t.Error(n, e)
	}
	if s := start(t, r, "M"); len(s.Threads[1].Activations) != 1 {
		t.Error(s.Threads[1])
	}
	full := r
	full.Threads = slices.Repeat(r.Threads, 8)
	for k, x := range []struct {
		m      api.Machine
		loader int
		s      string
		e      api.Errno
	}{{m, 2, "M", api.ErrRange}, {m, 0, "X", api.ErrNoClass}, {m, 1, "M", api.ErrNoClass}, {m, 0, "None", api.ErrNoMethod}, {m, 0, "Priv", api.ErrNoMethod}, {m, 0, "Inst", api.ErrNoMethod}, {m, 0, "Nat", api.ErrNoMethod}, {m, 0, "Bad", api.ErrVerify}, {full, 0, "M", api.ErrTooMany}, {full, 0, "Bad", api.ErrVerify}} {
		if r, n, e := machine.StartMain(x.m, x.loader, x.s); e != x.e || n != -1 || !reflect.DeepEqual(r, x.m) {
			t.Error(k, n, e)
		}
	}
	if m, e := machine.New(nil, 1); e != api.ErrTooMany || m.Space.Loaders != nil {
		t.Error(e)
	}
}

func TestEvents(t *testing.T) { // P52.3, P52.6
	m := start(t, start(t, newMachine(t, 100), "Loop"), "M")
	var l []api.Event
	for i := range 60 {
		l = append(l, api.Event{Pick: i % 3, Collect: i%7 == 6, Soft: i%2 == 0})
	}
	all, n, e := machine.Play(m, l)
	if n != 60 || e != api.OK || !heap.Valid(all) {
		t.Fatal(n, e)
	}
	for i := range l {
		a, n1, e1 := machine.Play(m, l[:i])
		b, n2, e2 := machine.Play(a, l[i:])
		if n1 != i || n1+n2 != 60 || e1 != api.OK || e2 != api.OK || !reflect.DeepEqual(b, all) || !heap.Valid(a) {
			t.Fatal(i, n1, n2)
		}
	}
	full, _, _ := machine.Play(m, l[:6])
	collected, e := machine.Apply(full, api.Event{Collect: true})
	if e != api.OK || heap.Count(collected) > heap.Count(full) {
		t.Error(e)
	}
	done, _, _ := machine.RunThread(start(t, newMachine(t, 9), "M"), 0, 99)
	if r, e := machine.Apply(done, api.Event{}); e != api.ErrBlocked || !reflect.DeepEqual(r, done) {
		t.Error(e)
	}
	if r, n, e := machine.Play(done, []api.Event{{Collect: true}, {}, {}}); e != api.OK || n != 1 || !reflect.DeepEqual(r.Threads, done.Threads) {
		t.Error(n, e)
	}
	bad := start(t, newMachine(t, 9), "Thrower")
	bad, _, _ = machine.RunThread(bad, 0, 2)
	top, _ := callstack.Top(bad, 0)
	top.PC = 2
	bad, _ = callstack.ReplaceTop(bad, 0, top)
	if r, n, e := machine.Play(bad, []api.Event{{Collect: true}, {}, {}}); e != api.ErrStackHeight || n != 1 || !reflect.DeepEqual(r.Threads, bad.Threads) {
		t.Error(n, e)
	}
}

func TestThreadStatus(t *testing.T) { // P52.4
	m := newMachine(t, 100)
	for _, s := range []string{"Thrower", "Waiter", "Loop", "M"} {
		m = start(t, m, s)
	}
	var e api.Errno
	if m, _, e = machine.RunThread(m, 0, 99); e != api.OK {
		t.Error(e)
	}
	if _, _, e = machine.RunThread(m, 1, 99); e != api.ErrBlocked {
		t.Error(e)
	}
	m, _, _ = machine.RunThread(m, 1, 99)
	m.Threads = append(m.Threads, api.Thread{State: api.Terminated, Result: api.Value{Kind: api.KInt, N: -4}}, api.Thread{State: api.Terminated, Result: api.Value{Kind: api.KLong, N: 1 << 40}}, api.Thread{State: api.Terminated, Result: api.Value{Kind: api.KRef}}, api.Thread{})
	want := []string{"thrown lang/ArithmeticException", "waiting", "going", "going", "done -4", "done 1099511627776", "done", "waiting"}
	if l := machine.ThreadStatus(m); !slices.Equal(l, want) || len(machine.ThreadStatus(api.Machine{})) != 0 {
		t.Error(l)
	}
	odd := api.Machine{MaxObjects: 5}
	odd.Space.Loaders = make([]api.Loader, 1)
	odd, _, _ = heap.NewArray(odd, api.RuntimeType{Base: 'I'}, 0)
	odd.Threads = []api.Thread{{State: api.Terminated, Exception: 1}}
	if l := machine.ThreadStatus(odd); !heap.Valid(odd) || len(l) != 1 {
		t.Error(l)
	}
}

func TestRunThread(t *testing.T) { // P52.5
	m := start(t, newMachine(t, 100), "Loop")
	for most, want := range map[int]int{-5: 0, 0: 0, 7: 7} {
		if r, n, e := machine.RunThread(m, 0, most); e != api.ErrOutOfFuel || n != want || !heap.Valid(r) || want == 0 && !reflect.DeepEqual(r, m) {
			t.Error(most, n, e)
		}
	}
	for _, k := range []int{-1, 1} {
		if r, n, e := machine.RunThread(m, k, 5); e != api.ErrRange || n != 0 || !reflect.DeepEqual(r, m) {
			t.Error(n, e)
		}
	}
	done := start(t, newMachine(t, 9), "M")
	for most, want := range map[int]api.Errno{2: api.ErrOutOfFuel, 3: api.OK} {
		if _, n, e := machine.RunThread(done, 0, most); n != most || e != want {
			t.Error(n, e)
		}
	}
	r, _, _ := machine.RunThread(done, 0, 3)
	if s, n, e := machine.RunThread(r, 0, 0); n != 0 || e != api.OK || !reflect.DeepEqual(s, r) {
		t.Error(n, e)
	}
	small := start(t, newMachine(t, 3), "Loop")
	r, _, e := machine.RunThread(small, 0, 1000)
	if e != api.OK || machine.ThreadStatus(r)[0] != "thrown lang/OutOfMemoryError" {
		t.Error(machine.ThreadStatus(r), e)
	}
}
