package promises

import (
	"armature/api"
	"armature/classspace"
	"armature/gc"
	"armature/heap"
	"armature/link"
	"armature/machine"
	"armature/method"
	"armature/reachability"
	"armature/reflection"
	"armature/sched"
	"armature/typeaudit"
	"math/rand"
	"slices"
	"strings"
	"testing"
)

// threads is a program with five threads that share counters, wait for one another and need each other's classes.
const threads = `class Box extends lang::Object { int n ; int full ; static int made ; static { Box . made = Left . x + 1 ; } new ( ) { Box . made = Box . made + 1 ; }
  sync void put ( int v ) { while ( this . full ) { this . wait ( ) ; } this . n = v ; this . full = 1 ; this . notifyAll ( ) ; }
  sync int take ( ) { while ( ! this . full ) { this . wait ( ) ; } this . full = 0 ; this . notifyAll ( ) ; return this . n ; } }
class Left extends lang::Object { static int x ; static { Left . x = 10 ; Left . x = Left . x + 1 ; } } class Right extends Left { static int y ; static { Right . y = Left . x * 2 ; lang::Object o = new lang::Object ( ) ; sync ( o ) { Right . y = Right . y + 1 ; } } }
class Producer extends lang::Thread { Box box ; new ( Box b ) { this . box = b ; } public void run ( ) { int i = 0 ; while ( i < 4 ) { this . box . put ( i + Right . y ) ; i = i + 1 ; } } }
class Consumer extends lang::Thread { Box box ; Box sum ; new ( Box b , Box s ) { this . box = b ; this . sum = s ; } public void run ( ) { int i = 0 ; while ( i < 4 ) { int v = this . box . take ( ) ; sync ( this . sum ) { sync ( this . sum ) { this . sum . n = this . sum . n + v ; } } i = i + 1 ; } sync ( this . sum ) { this . sum . full = this . sum . full + 1 ; this . sum . notify ( ) ; } } }
class M extends lang::Object { public static void main ( ) { Box a = new Box ( ) ; Box b = new Box ( ) ; Box sum = new Box ( ) ; new Producer ( a ) . start ( ) ; new Consumer ( a , sum ) . start ( ) ; new Consumer ( b , sum ) . start ( ) ; new Producer ( b ) . start ( ) ; lang::WeakReference w = new lang::WeakReference ( new Box ( ) ) ; sync ( sum ) { while ( sum . full < 2 ) { sum . wait ( ) ; } } lang::Console . printInt ( sum . n ) ; lang::Console . printInt ( Box . made ) ; } }`

func TestSchedules(t *testing.T) { // P5, P6, P7, P8
	for seed := range int64(12) {
		r := rand.New(rand.NewSource(seed))
		m := started(t, source(t, threads))
		for n := 0; !sched.AllTerminated(m); n++ {
			if n > 20000 || sched.Stalled(m) {
				t.Fatal(seed, n, machine.ThreadStatus(m))
			}
			if r.Intn(60) == 0 {
				m = collected(t, m, r.Intn(2) == 0)
			}
			next, who, e := sched.Step(m, r.Int())
			if e != api.OK {
				t.Fatal(seed, n, e)
			}
			checkMonitors(t, m, next, who)
			checkInitialization(t, m, next, who)
			m = next
			if n%25 == 0 && !typeaudit.Consistent(m) || n%200 == 0 && !heap.Valid(m) {
				t.Fatal(seed, n, "not consistent")
			}
		}
		// Eight values: twice 0 to 3, and 23 for each of them.
		if !slices.Equal(m.Output, []string{"196", "16"}) {
			t.Error(seed, m.Output)
		}
	}
}

func collected(t *testing.T, m api.Machine, soft bool) api.Machine {
	t.Helper()
	strong := reachability.StronglyReachable(m)
	r, _, _ := gc.Collect(m, soft)
	for i := range m.Heap {
		if strong[i] && (r.Heap[i].Kind != m.Heap[i].Kind || r.Heap[i].Type != m.Heap[i].Type || r.Heap[i].Owner != m.Heap[i].Owner) {
			t.Fatal("a strongly reachable object is lost", i+1)
		}
	}
	return r
}

// checkMonitors compares the machines before and after a step.
func checkMonitors(t *testing.T, a, b api.Machine, who int) {
	t.Helper()
	for i, x := range a.Threads {
		y := b.Threads[i]
		if i != who && x.State != y.State && !(x.State == api.Waiting && y.State == api.Reacquiring && a.Heap[x.Monitor-1].Owner == who+1) {
			t.Fatal("a state has changed", i, x.State, y.State)
		}
		if i == who && x.State == api.Reacquiring && (y.State != api.Runnable || b.Heap[x.Monitor-1].Owner != i+1 || b.Heap[x.Monitor-1].Count != x.Count) {
			t.Fatal("it proceeds without the monitor", i)
		}
	}
	for i, o := range a.Heap {
		if p := b.Heap[i]; o.Owner != 0 && p.Owner != 0 && o.Owner != p.Owner || o.Owner != 0 && o.Owner != who+1 && o.Owner != p.Owner {
			t.Fatal("a monitor was taken away", i+1)
		}
	}
}

// checkInitialization looks at the states of classes and at who executes their code.
func checkInitialization(t *testing.T, a, b api.Machine, who int) {
	t.Helper()
	for c, r := range a.Init {
		s := b.Init[c]
		if r.State == api.Initialized && s.State != api.Initialized || r.State == api.Initializing && s.State != r.State && r.Thread != who || r.State == api.Initializing && s.State == api.Initializing && r.Thread != s.Thread {
			t.Fatal("class", c, r, s)
		}
	}
	for c, s := range b.Init {
		if super := b.Space.Classes[c].Super; s.State == api.Initialized && super >= 0 && b.Space.Classes[c].Model.Flags&api.Interface == 0 && b.Init[super].State != api.Initialized {
			t.Fatal("before its superclass", c)
		}
	}
	if l := b.Threads[who].Activations; len(l) > 0 {
		x := l[len(l)-1]
		if x.Method < 0 || x.PC == 0 {
			return
		}
		m, _ := method.Get(b.Space, api.MemberRef{Class: x.Class, Index: x.Method})
		if s := b.Init[x.Class]; m.Flags&api.Static != 0 && s.State != api.Initialized && !(s.State == api.Initializing && s.Thread == who) {
			t.Fatal("code of a class that is not initialized", m.Name, s)
		}
	}
}

func TestDeadlock(t *testing.T) { // P6
	const s = `class A extends lang::Object { static int x ; static { A . x = B . y ; } } class B extends lang::Object { static int y ; static { B . y = A . x ; } }
class T extends lang::Thread { public void run ( ) { lang::Console . printInt ( B . y ) ; } } class M extends lang::Object { public static void main ( ) { new T ( ) . start ( ) ; lang::Console . printInt ( A . x ) ; } }`
	stalled, ended := 0, 0
	for seed := range int64(40) {
		r := rand.New(rand.NewSource(seed))
		m := started(t, source(t, s))
		for !sched.AllTerminated(m) && !sched.Stalled(m) {
			next, who, e := sched.Step(m, r.Int())
			if e != api.OK {
				t.Fatal(e)
			}
			checkInitialization(t, m, next, who)
			m = next
		}
		if sched.Stalled(m) {
			stalled++
			if !slices.Equal(sched.WaitCycle(m), []int{0, 1}) {
				t.Error(sched.WaitCycle(m))
			}
			continue
		}
		ended++
		if strings.Join(m.Output, " ") != "0 0" {
			t.Error(m.Output)
		}
	}
	if stalled == 0 || ended == 0 {
		t.Error(stalled, ended)
	}
}

func TestCollections(t *testing.T) { // P8
	r := rand.New(rand.NewSource(1))
	for k, s := range corpus(25) {
		m := started(t, source(t, s))
		plain, n, e := machine.RunThread(m, 0, 4000)
		if e != api.OK {
			continue
		}
		steps := 0
		for m.Threads[0].State != api.Terminated {
			if r.Intn(30) == 0 {
				m = collected(t, m, r.Intn(2) == 0)
			}
			if m, e = machine.Apply(m, api.Event{Pick: r.Int()}); e != api.OK {
				t.Fatal(k, e)
			}
			steps++
		}
		if steps != n || !slices.Equal(m.Output, plain.Output) || !slices.Equal(machine.ThreadStatus(m), machine.ThreadStatus(plain)) {
			t.Error(k, steps, n)
		}
	}
}

const mirrored = `class A extends lang::Object { int x ; long y ; A next ; static int s ; int getX ( ) { return this . x ; } long getY ( ) { return this . y ; } A getNext ( ) { return this . next ; } static int getS ( ) { return A . s ; } void setX ( int v ) { this . x = v ; } int pick ( ) { return 1 ; } }
class B extends A { int pick ( ) { return 2 ; } } class M extends lang::Object { public static void main ( ) { A . s = 3 ; new B ( ) . setX ( 4 ) ; } }`

func TestReflection(t *testing.T) { // P10
	m, _, e := machine.RunThread(started(t, source(t, mirrored)), 0, 1000)
	if e != api.OK {
		t.Fatal(e)
	}
	a, _ := classspace.FindLoaded(m.Space, 0, "A")
	b, _ := classspace.FindLoaded(m.Space, 0, "B")
	if m.Space, e = link.LinkAll(m.Space, []int{a, b}); e != api.OK {
		t.Fatal(e)
	}
	m, n, e := heap.NewObject(m, b)
	if e != api.OK {
		t.Fatal(e)
	}
	// call runs a method on a thread of its own and returns its result.
	call := func(m api.Machine, n int, name, desc string, args ...api.Value) (api.Machine, api.Value) {
		t.Helper()
		i, ok := method.Declared(m.Space, a, name, desc)
		if !ok {
			t.Fatal(name)
		}
		m.Threads = []api.Thread{{}}
		m, e := reflection.Invoke(m, 0, n, api.MemberRef{Class: a, Index: i}, args)
		if e != api.OK {
			t.Fatal(name, e)
		}
		if m, _, e = machine.RunThread(m, 0, 100); e != api.OK {
			t.Fatal(name, e)
		}
		return m, m.Threads[0].Result
	}
	for _, x := range []struct {
		field  int
		obj    int
		getter string
		desc   string
		v      api.Value
	}{{0, n, "getX", "()I", api.Value{Kind: api.KInt, N: -9}}, {1, n, "getY", "()J", api.Value{Kind: api.KLong, N: 1 << 50}}, {2, n, "getNext", "()LA;", api.Value{Kind: api.KRef, N: n}}, {3, 0, "getS", "()I", api.Value{Kind: api.KInt, N: 77}}} {
		f := api.MemberRef{Class: a, Index: x.field}
		old, e := reflection.Get(m, x.obj, f)
		if _, v := call(m, x.obj, x.getter, x.desc); e != api.OK || v != old {
			t.Error(x.getter, v, old, e)
		}
		r, e := reflection.Set(m, x.obj, f, x.v)
		if _, v := call(r, x.obj, x.getter, x.desc); e != api.OK || v != x.v {
			t.Error(x.getter, v, e)
		}
	}
	r, _ := call(m, n, "setX", "(I)V", api.Value{Kind: api.KInt, N: 6})
	if v, e := reflection.Get(r, n, api.MemberRef{Class: a}); e != api.OK || v.N != 6 {
		t.Error(v, e)
	}
	if _, v := call(m, n, "pick", "()I"); v.N != 2 {
		t.Error(v)
	}
}
