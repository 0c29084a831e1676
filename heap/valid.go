package heap

import (
	"armature/api"
	"armature/classspace"
	"armature/layout"
	"armature/validity"
	"slices"
)

// every reports whether each element of a list passes a test that also takes its index.
func every[T any](l []T, ok func(int, T) bool) bool {
	for i, x := range l {
		if !ok(i, x) {
			return false
		}
	}
	return true
}

// Valid reports whether a machine is valid.
func Valid(m api.Machine) bool {
	return classspace.Valid(m.Space) && m.MaxObjects >= 0 && m.MaxObjects <= api.MaxObjects && len(m.Heap) <= api.MaxObjects &&
		every(m.Heap, func(i int, _ api.Object) bool { return validity.Object(m, i+1) }) &&
		len(m.Init) <= len(m.Space.Classes) && every(m.Init, func(c int, r api.InitRecord) bool { return validRecord(m, c, r) }) &&
		every(m.Interned, func(i int, s api.InternedString) bool { return validInterned(m, i, s) }) &&
		len(m.Threads) <= api.MaxThreads && every(m.Threads, func(t int, x api.Thread) bool { return validThread(m, t, x) })
}

func validRecord(m api.Machine, c int, r api.InitRecord) bool {
	if r.State < api.NotInitialized || r.State > api.InitFailed {
		return false
	}
	if r.State == api.Initializing {
		if r.Thread < 0 || r.Thread >= len(m.Threads) {
			return false
		}
	} else if r.Thread != 0 {
		return false
	}
	if r.State == api.NotInitialized {
		return len(r.Statics) == 0
	}
	return validity.Shaped(m, r.Statics, layout.InitialStatics(m.Space, c))
}

func validInterned(m api.Machine, i int, s api.InternedString) bool {
	if i > 0 && m.Interned[i-1].String >= s.String {
		return false
	}
	o, ok := Object(m, s.Object)
	return ok && o.Kind == api.ObjString && o.String == s.String
}

func validThread(m api.Machine, t int, x api.Thread) bool {
	waits := x.State == api.Blocked || x.State == api.Waiting || x.State == api.Reacquiring
	counts := x.State == api.Waiting || x.State == api.Reacquiring
	ended := x.State == api.Terminated
	switch {
	case x.State < api.Runnable || x.State > api.Terminated,
		waits && !validity.Exists(m, x.Monitor), !waits && x.Monitor != 0,
		counts && x.Count <= 0, !counts && x.Count != 0,
		x.State == api.Waiting && !slices.Contains(m.Heap[x.Monitor-1].WaitSet, t),
		!validity.NullOrExists(m, x.Object), !validity.NullOrExists(m, x.Exception), !validity.Value(m, x.Result),
		!ended && (x.Exception != 0 || x.Result != (api.Value{})),
		len(x.Activations) > api.MaxFrames, ended && len(x.Activations) > 0:
		return false
	}
	return every(x.Activations, func(_ int, a api.Activation) bool { return validity.Activation(m, a) })
}
