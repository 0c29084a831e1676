package basicops

import (
	"armature/api"
	"reflect"
	"slices"
	"testing"
)

func v(kind, n int) api.Value { return api.Value{Kind: kind, N: n} }

func i(n int) api.Value { return v(api.KInt, n) }
func j(n int) api.Value { return v(api.KLong, n) }
func r(n int) api.Value { return v(api.KRef, n) }

type values = []api.Value

func TestHandles(t *testing.T) { // P42.1
	for op := -2; op < api.NumOps+2; op++ {
		want := op == api.Nop || op == api.AConstNull || op == api.Push || op == api.Ldc || op >= api.ILoad && op <= api.L2I || op >= api.IfEq && op <= api.LookupSwitch
		if Handles(op) != want {
			t.Error(op)
		}
		if a, e := Execute(api.Activation{PC: 7}, api.Insn{Op: op}); !want && (e != api.ErrBadOpcode || a.PC != 7) {
			t.Error(op, e)
		}
	}
	for _, b := range []int{0, 8, 7, -1} {
		if _, e := Execute(api.Activation{}, api.Insn{Op: api.Ldc, B: b}); e != api.ErrBadOpcode {
			t.Error(b, e)
		}
	}
}

type row struct {
	insn          api.Insn
	before, after values
	pc            int
	e             api.Errno
}

func rows() []row {
	op := func(n int) api.Insn { return api.Insn{Op: n} }
	to := func(n int) api.Insn { return api.Insn{Op: n, To: 40} }
	table := api.Insn{Op: api.TableSwitch, A: -1, To: 40, Tos: []int{50, 51}}
	lookup := api.Insn{Op: api.LookupSwitch, To: 40, Keys: []int{5, 7, 5, 9}, Tos: []int{50, 51, 52}}
	const height, mismatch = api.ErrStackHeight, api.ErrTypeMismatch
	return []row{
		{op(api.Nop), values{i(1)}, values{i(1)}, 11, 0}, {op(api.AConstNull), nil, values{r(0)}, 11, 0}, {api.Insn{Op: api.Push, A: -300}, nil, values{i(-300)}, 11, 0}, {api.Insn{Op: api.Ldc, A: 5, B: 3}, nil, values{i(5)}, 11, 0}, {api.Insn{Op: api.Ldc, A: 5, B: 5}, values{r(1)}, values{r(1), j(5)}, 11, 0},
		{op(api.Pop), values{i(1), {}}, values{i(1)}, 11, 0}, {op(api.Pop), nil, nil, 0, height}, {op(api.Dup), values{j(1)}, values{j(1), j(1)}, 11, 0}, {op(api.Dup), nil, nil, 0, height}, {op(api.DupX1), values{i(1), j(2)}, values{j(2), i(1), j(2)}, 11, 0}, {op(api.DupX1), values{i(1)}, nil, 0, height}, {op(api.Swap), values{i(0), i(1), j(2)}, values{i(0), j(2), i(1)}, 11, 0}, {op(api.Swap), values{i(1)}, nil, 0, height},
		{op(api.ISub), values{i(9), i(5), i(3)}, values{i(9), i(2)}, 11, 0}, {op(api.IDiv), values{i(7), i(0)}, nil, 0, api.ErrDivideByZero}, {op(api.IDiv), values{j(7), i(0)}, nil, 0, mismatch}, {op(api.IAdd), values{i(1)}, nil, 0, height}, {op(api.IAdd), values{j(1)}, nil, 0, mismatch}, {op(api.IAdd), values{i(1<<31 - 1), i(1)}, values{i(-1 << 31)}, 11, 0}, {op(api.IXor), values{i(1), r(1)}, nil, 0, mismatch}, {op(api.INeg), values{i(3)}, values{i(-3)}, 11, 0}, {op(api.INeg), values{j(3)}, nil, 0, mismatch}, {op(api.IShl), values{i(1), i(3)}, values{i(8)}, 11, 0},
		{op(api.LSub), values{j(5), j(3)}, values{j(2)}, 11, 0}, {op(api.LRem), values{j(5), j(0)}, nil, 0, api.ErrDivideByZero}, {op(api.LAdd), values{j(5), i(3)}, nil, 0, mismatch}, {op(api.LNeg), values{j(5)}, values{j(-5)}, 11, 0}, {op(api.LCmp), values{j(5), j(7)}, values{i(-1)}, 11, 0}, {op(api.I2L), values{i(-5)}, values{j(-5)}, 11, 0}, {op(api.I2L), values{j(5)}, nil, 0, mismatch}, {op(api.L2I), values{j(1<<32 + 2)}, values{i(2)}, 11, 0}, {op(api.L2I), values{i(5)}, nil, 0, mismatch},
		{to(api.IfEq), values{i(0)}, nil, 40, 0}, {to(api.IfEq), values{i(1)}, nil, 11, 0}, {to(api.IfLe), values{j(1)}, nil, 0, mismatch}, {to(api.IfLt), values{i(-1)}, nil, 40, 0}, {to(api.IfICmpLt), values{i(1), i(2)}, nil, 40, 0}, {to(api.IfICmpLt), values{i(2), i(1)}, nil, 11, 0}, {to(api.IfICmpGt), values{i(2)}, nil, 0, height}, {to(api.IfACmpEq), values{r(1), r(1)}, nil, 40, 0}, {to(api.IfACmpEq), values{r(1), r(2)}, nil, 11, 0}, {to(api.IfACmpNe), values{r(1), r(2)}, nil, 40, 0}, {to(api.IfACmpNe), values{r(1), i(1)}, nil, 0, mismatch}, {to(api.IfNull), values{r(0)}, nil, 40, 0}, {to(api.IfNull), values{r(3)}, nil, 11, 0}, {to(api.IfNonNull), values{r(3)}, nil, 40, 0}, {to(api.IfNonNull), values{r(0)}, nil, 11, 0}, {to(api.IfNonNull), values{i(0)}, nil, 0, mismatch}, {to(api.Goto), nil, nil, 40, 0}, {api.Insn{Op: api.Goto, To: -9}, nil, nil, -9, 0},
		{table, values{i(-1)}, nil, 50, 0}, {table, values{i(0)}, nil, 51, 0}, {table, values{i(1)}, nil, 40, 0}, {table, values{i(-2)}, nil, 40, 0}, {table, values{j(0)}, nil, 0, mismatch}, {api.Insn{Op: api.TableSwitch, A: -1 << 63, To: 40, Tos: []int{50}}, values{i(5)}, nil, 40, 0}, {api.Insn{Op: api.TableSwitch, A: 1<<63 - 1, To: 40, Tos: []int{50}}, values{i(-5)}, nil, 40, 0}, {lookup, values{i(5)}, nil, 50, 0}, {lookup, values{i(7)}, nil, 51, 0}, {lookup, values{i(9)}, nil, 40, 0}, {lookup, values{i(6)}, nil, 40, 0}, {lookup, nil, nil, 0, height},
	}
}

func TestExecute(t *testing.T) { // P42.2, P42.4
	for _, x := range rows() {
		for _, below := range []values{nil, {r(9), {}}} {
			if x.e == api.ErrStackHeight && below != nil {
				continue
			}
			a := api.Activation{PC: 10, Class: 3, Lock: 4, Locals: values{i(1)}, Stack: slices.Concat(below, x.before)}
			b, e := Execute(a, x.insn)
			want := a
			if e == api.OK {
				want.PC, want.Stack = x.pc, slices.Concat(below, x.after)
			}
			if len(want.Stack) == 0 {
				want.Stack, b.Stack = nil, b.Stack[len(b.Stack):]
				b.Stack = nil
			}
			if e != x.e || !reflect.DeepEqual(b, want) {
				t.Errorf("%v on %v: %v %d", x.insn, a.Stack, b, e)
			}
		}
	}
}

func TestLocals(t *testing.T) { // P42.2, P42.4
	locals := values{i(5), j(6), r(7), {}}
	for k, x := range []struct {
		op, a  int
		stack  values
		locals values
		e      api.Errno
	}{
		{api.ILoad, 0, values{i(5)}, locals, 0}, {api.LLoad, 1, values{j(6)}, locals, 0}, {api.ALoad, 2, values{r(7)}, locals, 0}, {api.ILoad, 1, nil, nil, api.ErrBadLocal}, {api.ALoad, 3, nil, nil, api.ErrBadLocal}, {api.ILoad, 4, nil, nil, api.ErrBadLocal}, {api.ILoad, -1, nil, nil, api.ErrBadLocal}, {api.IInc, 0, nil, values{i(-1<<31 + 4), j(6), r(7), {}}, 0}, {api.IInc, 1, nil, nil, api.ErrBadLocal}, {api.IInc, 9, nil, nil, api.ErrBadLocal},
	} {
		a := api.Activation{Locals: locals}
		b, e := Execute(a, api.Insn{Op: x.op, A: x.a, B: 1<<31 - 1})
		if e != x.e || e == api.OK && (!slices.Equal(b.Stack, x.stack) || !slices.Equal(b.Locals, x.locals)) || e != api.OK && !reflect.DeepEqual(a, b) {
			t.Error(k, b, e)
		}
	}
	for k, x := range []struct {
		op, a int
		top   api.Value
		e     api.Errno
	}{{api.IStore, 1, i(9), 0}, {api.LStore, 3, j(9), 0}, {api.AStore, 0, r(9), 0}, {api.IStore, 0, j(9), api.ErrTypeMismatch}, {api.AStore, 9, i(9), api.ErrTypeMismatch}, {api.AStore, 4, r(9), api.ErrBadLocal}, {api.AStore, -1, r(9), api.ErrBadLocal}} {
		a := api.Activation{Locals: locals, Stack: values{i(1), x.top}}
		b, e := Execute(a, api.Insn{Op: x.op, A: x.a})
		if e != x.e || e != api.OK && !reflect.DeepEqual(a, b) || e == api.OK && (b.Locals[x.a] != x.top || len(b.Stack) != 1) {
			t.Error(k, b, e)
		}
	}
	if !slices.Equal(locals, values{i(5), j(6), r(7), {}}) {
		t.Error("the argument has changed")
	}
	if _, e := Execute(api.Activation{}, api.Insn{Op: api.IStore}); e != api.ErrStackHeight {
		t.Error(e)
	}
}

func TestRun(t *testing.T) { // P42.3, P42.4
	l := []api.Insn{{Op: api.Push, A: 5}, {Op: api.Dup}, {Op: api.IAdd}, {Op: api.Ldc, B: 8}, {Op: api.Push}, {Op: api.IDiv}}
	a, n, e := Run(api.Activation{}, l, 100)
	if n != 3 || e != api.OK || !slices.Equal(a.Stack, values{i(10)}) || a.PC != 3 {
		t.Error(a, n, e)
	}
	for most := -1; most < 5; most++ {
		b, k, _ := Run(api.Activation{}, l, most)
		c, rest, e := Run(b, l, 100)
		if k != max(0, min(3, most)) || k+rest != 3 || e != api.OK || !reflect.DeepEqual(a, c) {
			t.Error(most, k, rest)
		}
	}
	a.PC = 4
	if b, n, e := Run(a, l, 9); n != 1 || e != api.ErrDivideByZero || b.PC != 5 || len(b.Stack) != 2 {
		t.Error(b, n, e)
	}
	for _, pc := range []int{-1, 6, 1 << 62} {
		if _, n, e := Run(api.Activation{PC: pc}, l, 9); n != 0 || e != api.OK {
			t.Error(pc, n, e)
		}
	}
	loop := []api.Insn{{Op: api.Goto}}
	if _, n, e := Run(api.Activation{}, loop, 1000); n != 1000 || e != api.OK {
		t.Error(n, e)
	}
	stack := values{i(1), j(2)}
	b, _, _ := Run(api.Activation{Stack: stack, Locals: values{i(1)}}, []api.Insn{{Op: api.Swap}, {Op: api.Swap}, {Op: api.Dup}, {Op: api.Pop}, {Op: api.ILoad}, {Op: api.IStore}}, 9)
	if !slices.Equal(b.Stack, stack) || b.PC != 6 {
		t.Error(b)
	}
}
