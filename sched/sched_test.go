package sched_test

import (
	"armature/api"
	"armature/classspace"
	"armature/heap"
	"armature/sample"
	"armature/sched"
	"reflect"
	"slices"
	"testing"
)

// example has threads 0 and 2 in a loop, thread 1 has ended, thread 3 will end.
func example(t *testing.T) (api.Machine, int) {
	t.Helper()
	m, e := sample.Machine(9, "class 1 T extends lang/Object\nm 1 <init> ()V\nmethod 9 loop ()V\ncode 1 1\nnop\ngoto 0\nend\nmethod 9 short ()V\ncode 1 0\nnop\nreturn\nend\nmethod 9 bad ()V\ncode 1 0\npop\nreturn\nend")
	if e != api.OK {
		t.Fatal(e)
	}
	c, _ := classspace.FindLoaded(m.Space, 0, "T")
	loop := api.Thread{Activations: []api.Activation{{Class: c, Method: 1, Locals: make([]api.Value, 1)}}}
	m.Threads = []api.Thread{loop, {State: api.Terminated}, loop, {Activations: []api.Activation{{Class: c, Method: 2}}}}
	for range 2 {
		m, _, _ = heap.NewObject(m, c)
	}
	if !heap.Valid(m) {
		t.Fatal("not valid")
	}
	return m, c
}

func TestPicks(t *testing.T) { // P48.1, P48.2
	m, _ := example(t)
	if l := sched.RunnableThreads(m); !slices.Equal(l, []int{0, 2, 3}) || sched.AllTerminated(m) || sched.Stalled(m) {
		t.Error(l)
	}
	for pick, want := range map[int]int{0: 0, 1: 2, 2: 3, 3: 0, -1: 3, -3: 0, -4: 3, 1<<63 - 1: 2, -1 << 63: 2} {
		k := ((pick % 3) + 3) % 3
		r, n, e := sched.Step(m, pick)
		if n != []int{0, 2, 3}[k] || e != api.OK || !heap.Valid(r) {
			t.Error(pick, n, want, e)
		}
		for i := range m.Threads {
			if (i == n) == reflect.DeepEqual(r.Threads[i], m.Threads[i]) {
				t.Error(pick, i)
			}
		}
	}
}

func TestRun(t *testing.T) { // P48.3, P48.4, P48.5
	m, c := example(t)
	picks := []int{0, 5, -1, 2, 2, 7, 1}
	r, l, e := sched.Run(m, picks)
	if e != api.OK || !slices.Equal(l, []int{0, 3, 3, 0, 0, 2, 2}) {
		t.Error(l, e)
	}
	for i := range picks {
		a, l1, e1 := sched.Run(m, picks[:i])
		b, l2, e2 := sched.Run(a, picks[i:])
		if e1 != api.OK || e2 != api.OK || !reflect.DeepEqual(b, r) || !slices.Equal(slices.Concat(l1, l2), l) {
			t.Error(i)
		}
	}
	m.Threads = m.Threads[3:]
	r, l, e = sched.Run(m, picks)
	if e != api.OK || !slices.Equal(l, []int{0, 0}) || !sched.AllTerminated(r) || sched.Stalled(r) {
		t.Error(l, e)
	}
	if s, n, e := sched.Step(r, 0); n != -1 || e != api.ErrBlocked || !reflect.DeepEqual(s, r) {
		t.Error(n, e)
	}
	m.Threads = append(m.Threads, api.Thread{Activations: []api.Activation{{Class: c, Method: 3}}})
	if s, n, e := sched.Step(m, 1); n != -1 || e != api.ErrStackHeight || !reflect.DeepEqual(s, m) {
		t.Error(n, e)
	}
	s, l, e := sched.Run(m, []int{0, 1, 0})
	if one, _, _ := sched.Step(m, 0); e != api.ErrStackHeight || !slices.Equal(l, []int{0}) || !reflect.DeepEqual(s, one) {
		t.Error(l, e)
	}
	if r, l, e := sched.Run(m, nil); e != api.OK || len(l) != 0 || !reflect.DeepEqual(r, m) || !sched.AllTerminated(api.Machine{}) || sched.Stalled(api.Machine{}) {
		t.Error(l, e)
	}
}

func TestDeadlocks(t *testing.T) { // P48.1, P48.6
	m, c := example(t)
	frame := m.Threads[0].Activations
	blocked := func(obj int) api.Thread { return api.Thread{State: api.Blocked, Monitor: obj, Activations: frame} }
	own := func(m api.Machine, owners ...int) api.Machine {
		m.Heap = slices.Clone(m.Heap)
		for i, o := range owners {
			m.Heap[i].Owner, m.Heap[i].Count = o+1, 1
		}
		return m
	}
	two := own(m, 0, 1)
	two.Threads = []api.Thread{blocked(2), blocked(1), blocked(1)}
	if l := sched.WaitCycle(two); !slices.Equal(l, []int{0, 1}) || !sched.Stalled(two) || len(sched.RunnableThreads(two)) != 0 || sched.AllTerminated(two) {
		t.Error(l)
	}
	line := own(m, 0, 1)
	line.Threads = []api.Thread{{Activations: frame}, blocked(1), blocked(2)}
	if l := sched.WaitCycle(line); len(l) != 0 || sched.Stalled(line) {
		t.Error(l)
	}
	self := own(m, 0)
	self.Threads = []api.Thread{{State: api.Reacquiring, Monitor: 1, Count: 1, Activations: frame}}
	if l := sched.WaitCycle(self); !slices.Equal(l, []int{0}) {
		t.Error(l)
	}
	mixed := own(m, 0)
	wait := api.Activation{Class: c, Method: -2}
	mixed.Threads = []api.Thread{{Activations: append(slices.Clone(frame), wait)}, blocked(1)}
	mixed.Init = make([]api.InitRecord, c+1)
	mixed.Init[c] = api.InitRecord{State: api.Initializing, Thread: 1}
	if l := sched.WaitCycle(mixed); !slices.Equal(l, []int{0, 1}) || !heap.Valid(mixed) {
		t.Error(l)
	}
	mixed.Init[c].Thread = 0
	if l := sched.WaitCycle(mixed); len(l) != 0 {
		t.Error("a thread does not wait for itself to initialize a class", l)
	}
	idle := m
	idle.Threads = []api.Thread{{}, {State: api.Waiting, Monitor: 1, Count: 1}}
	if l := sched.WaitCycle(idle); len(l) != 0 || !sched.Stalled(idle) {
		t.Error(l)
	}
}
