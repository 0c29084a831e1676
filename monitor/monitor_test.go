package monitor_test

import (
	"armature/api"
	"armature/classspace"
	"armature/heap"
	"armature/monitor"
	"armature/sample"
	"reflect"
	"slices"
	"testing"
)

func example(t *testing.T) api.Machine {
	t.Helper()
	w, e := sample.Loaded(sample.Root + "\nclass 1 M extends lang/Object\nmethod 9 m ()V\ncode 1 0\nreturn\nend")
	if e != api.OK {
		t.Fatal(e)
	}
	c, _ := classspace.FindLoaded(w, 0, "M")
	going := api.Thread{Activations: []api.Activation{{Class: c}}}
	m := api.Machine{Space: w, MaxObjects: 10, Threads: []api.Thread{going, going, going, {State: api.Terminated}, {}}}
	for range 2 {
		if m, _, e = heap.NewObject(m, c); e != api.OK {
			t.Fatal(e)
		}
	}
	if !heap.Valid(m) {
		t.Fatal("not valid")
	}
	return m
}

func enter(t *testing.T, m api.Machine, thread, obj int, want bool) api.Machine {
	t.Helper()
	r, ok, e := monitor.Enter(m, thread, obj)
	if ok != want || e != api.OK || !heap.Valid(r) {
		t.Fatal(thread, obj, ok, e)
	}
	return r
}

func must(t *testing.T) func(api.Machine, api.Errno) api.Machine {
	return func(m api.Machine, e api.Errno) api.Machine {
		t.Helper()
		if e != api.OK || !heap.Valid(m) {
			t.Fatal(e)
		}
		return m
	}
}

func TestFirstChecks(t *testing.T) { // P41.1
	m := example(t)
	for _, f := range []func(t, obj int) (api.Machine, api.Errno){
		func(t, obj int) (api.Machine, api.Errno) { r, _, e := monitor.Enter(m, t, obj); return r, e },
		func(t, obj int) (api.Machine, api.Errno) { return monitor.Exit(m, t, obj) },
		func(t, obj int) (api.Machine, api.Errno) { return monitor.Wait(m, t, obj) },
		func(t, obj int) (api.Machine, api.Errno) { return monitor.Notify(m, t, obj, true) },
	} {
		for _, x := range []struct {
			t, obj int
			e      api.Errno
		}{{-1, 0, api.ErrRange}, {5, 1, api.ErrRange}, {3, 0, api.ErrTerminated}, {0, 0, api.ErrNullPointer}, {0, 3, api.ErrRange}, {0, -1, api.ErrRange}} {
			if r, e := f(x.t, x.obj); e != x.e || !reflect.DeepEqual(r, m) {
				t.Error(x, e)
			}
		}
	}
}

func TestEnterAndExit(t *testing.T) { // P41.2, P41.6
	m := example(t)
	one := enter(t, m, 0, 1, true)
	two := enter(t, one, 0, 1, true)
	if o := two.Heap[0]; o.Owner != 1 || o.Count != 2 {
		t.Error(o)
	}
	if back := must(t)(monitor.Exit(two, 0, 1)); !reflect.DeepEqual(back, one) {
		t.Error(back.Heap[0])
	}
	if back := must(t)(monitor.Exit(one, 0, 1)); !reflect.DeepEqual(back, m) {
		t.Error(back.Heap[0])
	}
	blocked := enter(t, two, 1, 1, false)
	if x := blocked.Threads[1]; x.State != api.Blocked || x.Monitor != 1 || x.Count != 0 || !reflect.DeepEqual(blocked.Heap, two.Heap) {
		t.Error(x)
	}
	if r, ok, e := monitor.Enter(blocked, 1, 2); e != api.ErrBlocked || ok || !reflect.DeepEqual(r, blocked) {
		t.Error(ok, e)
	}
	for _, x := range []int{1, 2} {
		if r, e := monitor.Exit(two, x, 1); e != api.ErrMonitorOwner || !reflect.DeepEqual(r, two) {
			t.Error(e)
		}
	}
	full := two
	full.Heap = slices.Clone(two.Heap)
	full.Heap[0].Count = 1<<31 - 1
	if r, ok, e := monitor.Enter(full, 0, 1); e != api.ErrTooMany || ok || !reflect.DeepEqual(r, full) {
		t.Error(ok, e)
	}
	full.Heap[0].Count--
	enter(t, full, 0, 1, true)
}

func TestWaitAndNotify(t *testing.T) { // P41.3, P41.5, P41.6
	m := enter(t, enter(t, example(t), 0, 1, true), 0, 1, true)
	m = enter(t, m, 1, 1, false)
	if monitor.Runnable(m, 1) {
		t.Error("blocked")
	}
	for _, x := range []int{1, 2} {
		if r, e := monitor.Wait(m, x, 1); e != api.ErrMonitorOwner || !reflect.DeepEqual(r, m) {
			t.Error(e)
		}
		if r, e := monitor.Notify(m, x, 1, true); e != api.ErrMonitorOwner || !reflect.DeepEqual(r, m) {
			t.Error(e)
		}
	}
	if r := must(t)(monitor.Notify(m, 0, 1, true)); !reflect.DeepEqual(r, m) {
		t.Error("nobody waits")
	}
	m = must(t)(monitor.Wait(m, 0, 1))
	if x, o := m.Threads[0], m.Heap[0]; x.State != api.Waiting || x.Monitor != 1 || x.Count != 2 || o.Owner != 0 || o.Count != 0 || !slices.Equal(o.WaitSet, []int{0}) {
		t.Error(x, o)
	}
	if !monitor.Runnable(m, 1) || monitor.Runnable(m, 0) {
		t.Error("Runnable")
	}
	m = must(t)(monitor.Resume(m, 1))
	if x := m.Threads[1]; x.State != api.Runnable || x.Monitor != 0 || m.Heap[0].Owner != 0 {
		t.Error(x)
	}
	m = must(t)(monitor.Wait(enter(t, m, 1, 1, true), 1, 1))
	m = enter(t, m, 2, 1, true)
	if o := m.Heap[0]; !slices.Equal(o.WaitSet, []int{0, 1}) {
		t.Error(o)
	}
	all := must(t)(monitor.Notify(m, 2, 1, true))
	if len(all.Heap[0].WaitSet) != 0 || all.Threads[0].State != api.Reacquiring || all.Threads[1].State != api.Reacquiring {
		t.Error(all.Threads)
	}
	m = must(t)(monitor.Notify(m, 2, 1, false))
	if x := m.Threads[0]; x.State != api.Reacquiring || x.Monitor != 1 || x.Count != 2 || !slices.Equal(m.Heap[0].WaitSet, []int{1}) || m.Threads[1].State != api.Waiting {
		t.Error(x)
	}
	if r, e := monitor.Resume(m, 0); e != api.ErrBlocked || !reflect.DeepEqual(r, m) {
		t.Error(e)
	}
	m = must(t)(monitor.Exit(m, 2, 1))
	m = must(t)(monitor.Resume(m, 0))
	if x, o := m.Threads[0], m.Heap[0]; x.State != api.Runnable || x.Monitor != 0 || x.Count != 0 || o.Owner != 1 || o.Count != 2 {
		t.Error(x, o)
	}
	if r := must(t)(monitor.Resume(m, 0)); !reflect.DeepEqual(r, m) {
		t.Error("a runnable thread is unchanged")
	}
}

func TestRunnable(t *testing.T) { // P41.4, P41.5
	m := example(t)
	for k, want := range map[int]bool{-1: false, 5: false, 3: false, 4: false, 0: true} {
		if got := monitor.Runnable(m, k); got != want {
			t.Error(k, got)
		}
	}
	for k, want := range map[int]api.Errno{-1: api.ErrRange, 5: api.ErrRange, 3: api.ErrTerminated, 4: api.ErrBlocked} {
		if r, e := monitor.Resume(m, k); e != want || !reflect.DeepEqual(r, m) {
			t.Error(k, e)
		}
	}
	c := m.Threads[0].Activations[0].Class
	wait := api.Activation{Class: c, Method: -2}
	m.Threads[0].Activations = append(slices.Clip(m.Threads[0].Activations), wait)
	if !monitor.Runnable(m, 0) {
		t.Error("beyond the end of Init")
	}
	m.Init = make([]api.InitRecord, c+1)
	for _, x := range []struct {
		state, thread int
		want          bool
	}{{api.NotInitialized, 0, true}, {api.Initializing, 1, false}, {api.Initializing, 0, true}, {api.Initialized, 0, true}, {api.InitFailed, 0, true}} {
		m.Init[c] = api.InitRecord{State: x.state, Thread: x.thread}
		if got := monitor.Runnable(m, 0); got != x.want {
			t.Error(x, got)
		}
	}
	own := enter(t, m, 1, 1, true)
	own.Threads = slices.Clone(own.Threads)
	own.Threads[1].State, own.Threads[1].Monitor = api.Blocked, 1
	if !monitor.Runnable(own, 1) {
		t.Error("its own monitor")
	}
	own.Threads[1].State, own.Threads[1].Count = api.Reacquiring, 1
	if monitor.Runnable(own, 1) {
		t.Error("reacquiring its own monitor")
	}
}
