package promises

import (
	"armature/access"
	"armature/api"
	"armature/callstack"
	"armature/classinit"
	"armature/classspace"
	"armature/constraint"
	"armature/dispatch"
	"armature/field"
	"armature/gc"
	"armature/heap"
	"armature/intern"
	"armature/invoke"
	"armature/layout"
	"armature/link"
	"armature/load"
	"armature/loaderview"
	"armature/machine"
	"armature/method"
	"armature/monitor"
	"armature/native"
	"armature/objectops"
	"armature/reachability"
	"armature/reflection"
	"armature/rtype"
	"armature/sched"
	"armature/step"
	"armature/typeaudit"
	"armature/unwind"
	"fmt"
	"math/rand"
	"reflect"
	"testing"
)

// machineFunctions accept any arguments beside a valid machine or class space.
func machineFunctions() []any {
	return []any{classspace.FindLoaded, classspace.Delegate, classspace.DefiningLoader, classspace.Superclasses, classspace.IsSubtype, classspace.SamePackage, classspace.StoredBytes, constraint.Add, constraint.AddAll, constraint.Connected, constraint.Permits, load.Load, load.LoadAll, load.ReadModel, loaderview.Hierarchy, loaderview.ForClass, access.CanAccessClass, access.CanAccessMember, access.CanOverride, field.Declared, field.Lookup, field.Resolve, field.Get, method.Declared, method.Lookup, method.MaximallySpecific, method.Resolve, method.Get, layout.InstanceSlots, layout.StaticSlots, layout.SlotIndex, layout.InitialInstance, layout.InitialStatics, dispatch.Virtual, dispatch.Special, dispatch.VirtualTable, dispatch.CheckFinal, link.Link, link.LinkAll, link.Overrides, link.Consistent, rtype.Valid, rtype.Resolve, rtype.IsSubtype, rtype.Format,
		heap.Allocate, heap.NewObject, heap.NewArray, heap.Object, heap.Get, heap.Set, heap.TypeOf, heap.Count, heap.Conforms, intern.Intern, intern.NewString, intern.Lookup, intern.StringValue, callstack.NewThread, callstack.Push, callstack.Top, callstack.ReplaceTop, callstack.Pop, callstack.PopArguments, callstack.CurrentInstruction, classinit.State, classinit.Ensure, classinit.Complete, classinit.Fail, classinit.Await, monitor.Enter, monitor.Exit, monitor.Wait, monitor.Notify, monitor.Runnable, monitor.Resume, objectops.Execute, unwind.Throw, unwind.ThrowBuiltin, unwind.FindHandler, native.Call, invoke.Execute, invoke.ReturnValue, step.Step, step.NextAction, step.Run, sched.RunnableThreads, sched.Step, sched.Run, sched.AllTerminated, sched.Stalled, sched.WaitCycle, reflection.ClassOf, reflection.Fields, reflection.Methods, reflection.Get, reflection.Set, reflection.Invoke, reflection.TypeName, reflection.IsInstance, reachability.ReferenceStrength, reachability.Roots, reachability.References, reachability.StronglyReachable, reachability.Levels, gc.Collect, gc.ToClear, gc.Unreachable, gc.Survives, machine.StartMain, machine.Apply, machine.Play, machine.ThreadStatus, typeaudit.ValueConforms, typeaudit.CheckActivation, typeaudit.CheckThreads, typeaudit.CheckObjects, typeaudit.Consistent, typeaudit.Watch}
}

// fillAny fills an argument; the machine and its class space are given.
func fillAny(r *rand.Rand, v reflect.Value, m api.Machine) {
	switch x := v.Addr().Interface().(type) {
	case *api.Machine:
		*x = m
	case *api.ClassSpace:
		*x = m.Space
	case *int:
		*x = r.Intn(14) - 1
	case *api.MemberRef:
		*x = api.MemberRef{Class: r.Intn(len(m.Space.Classes)), Index: r.Intn(4)}
	case *api.Value:
		*x = api.Value{Kind: r.Intn(4), N: r.Intn(12) - 1}
	case *[]api.Value:
		for range r.Intn(3) {
			*x = append(*x, api.Value{Kind: 1 + r.Intn(3), N: r.Intn(12)})
		}
	case *api.Errno:
		*x = api.Errno(r.Intn(75))
	default:
		fill(r, v, 4)
	}
}

func TestAnyMachine(t *testing.T) { // general rules 1 and 4, P36.5 and the like
	r := rand.New(rand.NewSource(11))
	var machines []api.Machine
	for _, s := range append(corpus(3), threads, mirrored) {
		m := started(t, source(t, s))
		for range 4 {
			m, _, _ = sched.Run(m, r.Perm(60))
			machines = append(machines, m)
		}
	}
	var before []string
	for _, m := range machines {
		before = append(before, fmt.Sprintf("%v", m))
	}
	for k, f := range machineFunctions() {
		fn := reflect.ValueOf(f)
		for n := range machineCalls {
			m := machines[r.Intn(len(machines))]
			var args []reflect.Value
			for i := range fn.Type().NumIn() {
				v := reflect.New(fn.Type().In(i)).Elem()
				fillAny(r, v, m)
				args = append(args, v)
			}
			results := fn.Call(args)
			e, _ := results[len(results)-1].Interface().(api.Errno)
			for _, v := range results {
				switch x := v.Interface().(type) {
				case api.Machine:
					if n%8 == 0 && !heap.Valid(x) {
						t.Fatal(k, n, "not valid", e)
					}
					if reflect.DeepEqual(x.Threads, api.Machine{}.Threads) && len(m.Threads) > 0 {
						t.Fatal(k, n, "a zero machine")
					}
				case api.ClassSpace:
					if n%8 == 0 && !classspace.Valid(x) {
						t.Fatal(k, n, "not valid", e)
					}
				}
			}
		}
	}
	for i, m := range machines {
		if fmt.Sprintf("%v", m) != before[i] {
			t.Fatal(i, "an argument has changed")
		}
	}
}

const machineCalls = 300
