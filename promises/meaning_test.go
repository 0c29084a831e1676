package promises

import (
	"armature/api"
	"armature/codegen"
	"armature/evaluator"
	"armature/machine"
	"armature/parse"
	"armature/sample"
	"armature/typecheck"
	"slices"
	"testing"
)

func source(t *testing.T, s string) []api.ClassDecl {
	t.Helper()
	l, at, e := parse.ParseProgram(s)
	if e != api.OK {
		t.Fatal(s, at, e)
	}
	return l
}

func started(t *testing.T, l []api.ClassDecl) api.Machine {
	t.Helper()
	store, e := codegen.CompileStore(l)
	if e != api.OK {
		t.Fatal(e)
	}
	m, e := machine.New([]api.Loader{{Store: store}}, api.MaxObjects)
	if e != api.OK {
		t.Fatal(e)
	}
	m, _, e = machine.StartMain(m, 0, "M")
	if e != api.OK {
		t.Fatal(e)
	}
	return m
}

// corpus returns fixed and random programs.
func corpus(n int) []string {
	l := sample.Programs()
	for i := range n {
		l = append(l, program(int64(i)))
	}
	return l
}

func TestMeaning(t *testing.T) { // P9
	for k, s := range corpus(150) {
		l := source(t, s)
		o, e := evaluator.Run(l, "M", 30000)
		if e != api.OK {
			if e != api.ErrTooDeep && e != api.ErrOutOfFuel {
				c, m, _ := typecheck.Check(l)
				t.Fatal(k, s, c, m, e)
			}
			continue
		}
		m, _, e := machine.RunThread(started(t, l), 0, 1000000)
		status := "done"
		if o.Exception != "" {
			status = "thrown " + o.Exception
		}
		if e != api.OK || !slices.Equal(m.Output, o.Output) || machine.ThreadStatus(m)[0] != status {
			t.Errorf("program %d: %s\n%q %q\n%q %q %d", k, s, o.Output, status, m.Output, machine.ThreadStatus(m), e)
		}
	}
}
