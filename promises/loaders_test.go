package promises

import (
	"armature/api"
	"armature/classspace"
	"armature/codegen"
	"armature/constraint"
	"armature/heap"
	"armature/machine"
	"armature/sched"
	"armature/typeaudit"
	"math/rand"
	"slices"
	"testing"
)

// spread stores the classes of two variants of a program with three loaders that delegate at random.
func spread(t *testing.T, r *rand.Rand, a, b string) []api.Loader {
	t.Helper()
	var stores [2][]api.StoredClass
	for i, s := range []string{a, b} {
		var e api.Errno
		if stores[i], e = codegen.CompileStore(source(t, s)); e != api.OK {
			t.Fatal(e)
		}
	}
	loaders := make([]api.Loader, 3)
	for i := range loaders {
		for _, c := range stores[r.Intn(2)] {
			if i == 2 || r.Intn(4) > 0 {
				loaders[i].Store = append(loaders[i].Store, c)
			}
		}
		if i == 0 {
			continue
		}
		for _, p := range []string{"A", "B", "I", "E", "Box", "Left", "Right"} {
			if r.Intn(2) == 0 {
				loaders[i].Delegations = append(loaders[i].Delegations, api.Delegation{Prefix: p, To: r.Intn(i)})
			}
		}
	}
	return loaders
}

func TestManyLoaders(t *testing.T) { // P3, P5
	ran := 0
	for seed := range int64(spreads) {
		r := rand.New(rand.NewSource(seed))
		a, b := program(seed), program(seed+1000)
		if seed%10 == 0 {
			a, b = threads, threads
		}
		m, e := machine.New(spread(t, r, a, b), 500)
		if e != api.OK {
			t.Fatal(e)
		}
		m, _, e = machine.StartMain(m, 2, "M")
		if e != api.OK {
			continue
		}
		ran++
		for n := 0; n < 600 && !sched.AllTerminated(m) && !sched.Stalled(m); n++ {
			next, _, e := sched.Step(m, r.Int())
			if slices.Contains([]api.Errno{api.ErrStackHeight, api.ErrBadLocal, api.ErrTypeMismatch, api.ErrReturnKind, api.ErrBadOpcode}, e) {
				t.Fatal(seed, n, e)
			}
			if e != api.OK {
				break
			}
			m = next
			if n%5 == 0 && !typeaudit.Consistent(m) {
				th, i, e := typeaudit.CheckThreads(m)
				obj, f := typeaudit.CheckObjects(m)
				t.Fatal(seed, n, "not consistent", th, i, e, obj, f)
			}
		}
		if !heap.Valid(m) || !constraint.Consistent(m.Space) {
			t.Fatal(seed, "not valid")
		}
		for _, x := range m.Space.Initiated {
			if m.Space.Classes[x.Class].Loader != classspace.DefiningLoader(m.Space, x.Loader, x.Name) {
				t.Fatal(seed, x)
			}
		}
	}
	if ran == 0 {
		t.Error("nothing could be started")
	}
}

const spreads = 60
