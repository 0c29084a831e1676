package code

import (
	"armature/api"
	"reflect"
	"testing"
)

// The pool of the tests: 2 class A, 5 field A.f I, 7 method A.g ()V, 9 class [I, 10 array field, 12 method A.<init>, 13 int, 14 string, 15 text [I, 16 text LA;, 17 text V, 18 interface method A.<init>-free g.
func testPool() []api.Const {
	return []api.Const{
		{Tag: 1, S: "A"}, {Tag: 7, A: 1}, {Tag: 1, S: "f"}, {Tag: 1, S: "I"}, {Tag: 9, A: 2, B: 19}, {Tag: 1, S: "()V"}, {Tag: 10, A: 2, B: 20}, {Tag: 1, S: "[I"}, {Tag: 7, A: 8}, {Tag: 9, A: 9, B: 19},
		{Tag: 1, S: "<init>"}, {Tag: 10, A: 2, B: 21}, {Tag: 3, N: 5}, {Tag: 8, A: 1}, {Tag: 1, S: "[LA;"}, {Tag: 1, S: "LA;"}, {Tag: 1, S: "V"}, {Tag: 11, A: 2, B: 20},
		{Tag: 12, A: 3, B: 4}, {Tag: 12, A: 3, B: 6}, {Tag: 12, A: 11, B: 6}, {Tag: 10, A: 9, B: 20},
	}
}

func body(l ...api.Insn) api.Code {
	return api.Code{Stack: 2, Locals: 2, Insns: append(l, api.Insn{Op: api.Return})}
}

func one(op, a int) api.Insn { return api.Insn{Op: op, A: a} }

func expect(t *testing.T, what string, p []api.Const, c api.Code, at int, want api.Errno) {
	t.Helper()
	if i, e := Check(p, c); i != at || e != want {
		t.Errorf("%s: %d, %d, want %d, %d", what, i, e, at, want)
	}
}

func TestSizes(t *testing.T) { // P9.1
	p := testPool()
	expect(t, "plain", p, body(), 0, api.OK)
	expect(t, "bad pool", []api.Const{{Tag: 2}}, body(), 0, api.ErrConstantTag)
	for _, x := range []struct{ stack, locals int }{{-1, 0}, {33, 0}, {0, -1}, {0, 33}} {
		expect(t, "sizes", p, api.Code{Stack: x.stack, Locals: x.locals}, 0, api.ErrBadArgument)
	}
	expect(t, "no instruction", p, api.Code{}, 0, api.ErrTooMany)
	expect(t, "too many", p, body(make([]api.Insn, 1000)...), 0, api.ErrTooMany)
	expect(t, "most", p, body(make([]api.Insn, 999)...), 0, api.OK)
	var wide []api.Insn
	for range 147 {
		wide = append(wide, api.Insn{Op: api.TableSwitch, Tos: make([]int, 64)})
	}
	expect(t, "too large", p, body(wide...), 0, api.ErrTooLarge)
	wide[100].B = 1
	expect(t, "too large and malformed", p, body(wide...), 100, api.ErrMalformed)
}

func TestInstructions(t *testing.T) { // P9.1
	p := testPool()
	for k, x := range []struct {
		i api.Insn
		e api.Errno
	}{
		{one(-1, 0), api.ErrBadOpcode}, {one(api.Push, 128), api.ErrTooLarge}, {api.Insn{Op: api.Goto, To: 2}, api.ErrBadTarget}, {api.Insn{Op: api.Goto, To: 1}, api.OK}, {api.Insn{Op: api.TableSwitch, Tos: []int{5}}, api.ErrBadTarget},
		{one(api.ILoad, 1), api.OK}, {one(api.ILoad, 2), api.ErrBadLocal}, {one(api.IInc, 2), api.ErrBadLocal}, {one(api.Ldc, 23), api.ErrRange}, {one(api.Ldc, 22), api.ErrConstantTag}, {one(api.Ldc, 13), api.OK}, {one(api.Ldc, 14), api.OK}, {one(api.New, 13), api.ErrConstantTag},
		{one(api.New, 2), api.OK}, {one(api.New, 9), api.ErrBadDescriptor}, {one(api.CheckCast, 9), api.OK}, {one(api.InstanceOf, 9), api.OK}, {one(api.GetStatic, 5), api.OK}, {one(api.GetStatic, 7), api.ErrConstantTag}, {one(api.PutField, 10), api.ErrBadDescriptor}, {one(api.InvokeVirtual, 22), api.ErrBadDescriptor},
		{one(api.NewArray, 8), api.OK}, {one(api.NewArray, 4), api.OK}, {one(api.NewArray, 17), api.ErrBadDescriptor}, {one(api.NewArray, 3), api.ErrBadDescriptor}, {one(api.NewArray, 2), api.ErrConstantTag},
		{one(api.InvokeSpecial, 12), api.OK}, {one(api.InvokeVirtual, 12), api.ErrBadName}, {one(api.InvokeStatic, 12), api.ErrBadName}, {one(api.InvokeStatic, 18), api.OK}, {one(api.InvokeVirtual, 18), api.ErrConstantTag}, {one(api.InvokeInterface, 18), api.OK}, {one(api.InvokeInterface, 7), api.ErrConstantTag},
	} {
		want := 1
		if x.e == api.OK {
			want = 0
		}
		c := body(api.Insn{}, x.i)
		c.Insns[0] = api.Insn{Op: api.Nop}
		if x.i.Op == api.Goto && x.i.To == 2 {
			c.Insns[1].To = 3
		}
		i, e := Check(p, c)
		if i != want || e != x.e {
			t.Errorf("case %d: %d, %d, want %d", k, i, e, x.e)
		}
	}
	expect(t, "first instruction wins", p, body(one(api.ILoad, 9), one(-1, 0)), 0, api.ErrBadLocal)
	expect(t, "falls off", p, api.Code{Stack: 1, Insns: []api.Insn{one(api.Push, 1)}}, 0, api.ErrFallsOff)
	expect(t, "falls off later", p, api.Code{Stack: 1, Insns: []api.Insn{{}, one(api.Push, 1)}}, 1, api.ErrFallsOff)
	expect(t, "example", nil, api.Code{Stack: 1, Insns: []api.Insn{one(api.Push, 1), {Op: api.IReturn}}}, 0, api.OK)
}

func TestHandlers(t *testing.T) { // P9.1
	p := testPool()
	with := func(l ...api.Handler) api.Code {
		c := body(api.Insn{})
		c.Handlers = l
		return c
	}
	good := api.Handler{From: 0, To: 2, Target: 1}
	for k, x := range []struct {
		h  api.Handler
		ok bool
	}{
		{good, true}, {api.Handler{From: 0, To: 1, Class: 2}, true}, {api.Handler{From: -1, To: 1}, false}, {api.Handler{From: 1, To: 1}, false}, {api.Handler{From: 0, To: 3}, false}, {api.Handler{From: 0, To: 1, Target: 2}, false}, {api.Handler{From: 0, To: 1, Target: -1}, false}, {api.Handler{From: 0, To: 1, Type: "A"}, false}, {api.Handler{From: 0, To: 1, Class: 9}, false}, {api.Handler{From: 0, To: 1, Class: 1}, false}, {api.Handler{From: 0, To: 1, Class: -1}, false}, {api.Handler{From: 0, To: 1, Class: 99}, false},
	} {
		if x.ok {
			expect(t, "handler", p, with(good, x.h), 0, api.OK)
			continue
		}
		if i, e := Check(p, with(good, x.h)); i != 1 || e != api.ErrBadHandler {
			t.Error(k, i, e)
		}
	}
	many := make([]api.Handler, 33)
	expect(t, "too many handlers", p, with(many...), 0, api.ErrTooMany)
	expect(t, "bad handlers", p, with(many[:32]...), 0, api.ErrBadHandler)
}

func TestMapsAndLines(t *testing.T) { // P9.1
	p := testPool()
	base := body(one(api.New, 2))
	frame := func(v ...api.VType) api.Frame { return api.Frame{Stack: v} }
	v := func(kind, index, place int) api.VType {
		return api.VType{Kind: kind, PoolIndex: index, NewIndex: place}
	}
	for k, x := range []struct {
		f  api.Frame
		ok bool
	}{
		{api.Frame{}, true}, {frame(v(0, 0, 0), v(1, 0, 0)), true}, {frame(v(2, 0, 0), v(3, 0, 0)), true}, {frame(v(4, 16, 0), v(4, 15, 0)), true}, {frame(v(4, 8, 0)), true}, {frame(v(5, 16, 0), v(6, 16, 0)), true},
		{frame(v(0, 0, 0), v(0, 0, 0), v(0, 0, 0)), false}, {api.Frame{Locals: make([]api.VType, 2)}, true}, {api.Frame{Locals: make([]api.VType, 3)}, false}, {frame(api.VType{Type: api.Type{Base: 'I'}}), false}, {frame(v(7, 0, 0)), false}, {frame(v(-1, 0, 0)), false},
		{frame(v(1, 1, 0)), false}, {frame(v(3, 0, 1)), false}, {frame(v(4, 0, 0)), false}, {frame(v(4, 4, 0)), false}, {frame(v(4, 17, 0)), false}, {frame(v(4, 16, 1)), false}, {frame(v(4, 2, 0)), false}, {frame(v(5, 15, 0)), false}, {frame(v(5, 16, 1)), false}, {frame(v(5, 16, -1)), false}, {frame(v(5, 16, 2)), false}, {frame(v(6, 15, 0)), false}, {frame(v(6, 16, 1)), false}, {api.Frame{Locals: []api.VType{v(1, 9, 0)}}, false},
	} {
		c := base
		c.StackMaps = []api.StackMap{{Index: 0}, {Index: 1, Frame: x.f}}
		want, at := api.OK, 0
		if !x.ok {
			want, at = api.ErrStackMap, 1
		}
		if i, e := Check(p, c); i != at || e != want {
			t.Error(k, i, e)
		}
	}
	for _, l := range [][]int{{-1}, {2}} {
		c := base
		c.StackMaps = []api.StackMap{{Index: l[0]}}
		expect(t, "map index", p, c, 0, api.ErrStackMap)
		c = base
		c.Lines = []api.LineEntry{{Index: l[0]}}
		expect(t, "line index", p, c, 0, api.ErrBadArgument)
	}
	c := base
	c.StackMaps = []api.StackMap{{Index: 1}, {Index: 1}}
	expect(t, "repeated map", p, c, 1, api.ErrStackMap)
	c.StackMaps = nil
	c.Lines = []api.LineEntry{{Index: 0, Line: 0}, {Index: 1, Line: 65535}}
	expect(t, "lines", p, c, 0, api.OK)
	for _, bad := range []api.LineEntry{{Index: 0, Line: 1}, {Index: 1, Line: -1}, {Index: 1, Line: 65536}} {
		c.Lines = []api.LineEntry{{Index: 0}, bad}
		expect(t, "bad line", p, c, 1, api.ErrBadArgument)
	}
}

func TestBlocks(t *testing.T) { // P9.2, P9.3
	c := api.Code{Stack: 1, Insns: []api.Insn{{Op: api.Push}, {Op: api.IfEq, To: 3}, {}, {Op: api.Return}}}
	if b := BranchTargets(c); !reflect.DeepEqual(b, []bool{false, false, false, true}) {
		t.Error(b)
	}
	if s := BlockStarts(c); !reflect.DeepEqual(s, []int{0, 2, 3}) {
		t.Error(s)
	}
	c.Handlers = []api.Handler{{Target: 2}, {Target: 9}, {Target: -1}}
	c.Insns[1].To = 77
	if b := BranchTargets(c); !reflect.DeepEqual(b, []bool{false, false, true, false}) {
		t.Error(b)
	}
	if len(BranchTargets(api.Code{})) != 0 || len(BlockStarts(api.Code{Handlers: []api.Handler{{}}})) != 0 {
		t.Error("no instructions")
	}
	c = body(one(api.Ldc, 13), api.Insn{Op: api.Pop})
	p := testPool()
	expect(t, "before", p, c, 0, api.OK)
	expect(t, "after a constant was added", append(p, api.Const{Tag: 5}), c, 0, api.OK)
}
