package stackmap

import (
	"armature/api"
	"armature/classmodel"
	"reflect"
	"slices"
	"testing"
)

func to(op, n int) api.Insn { return api.Insn{Op: op, To: n} }

func sample() api.Code {
	return api.Code{Stack: 1, Locals: 1, Insns: []api.Insn{{Op: api.Push}, to(api.IfEq, 3), to(api.Goto, 4), {}, {Op: api.Return}}}
}

func TestRequired(t *testing.T) { // P22.1, P22.4
	c := sample()
	if r := Required(c); !slices.Equal(r, []int{3, 4}) {
		t.Error(r)
	}
	c.StackMaps = []api.StackMap{{Index: 0}}
	if r := Required(c); !slices.Equal(r, []int{3, 4}) {
		t.Error(r)
	}
	if r := Required(api.Code{Insns: []api.Insn{{}, {Op: api.Return}}}); len(r) != 0 {
		t.Error(r)
	}
	unreachable := api.Code{Insns: []api.Insn{{Op: api.Return}, to(api.Goto, 1), {Op: api.Return}}, Handlers: []api.Handler{{From: 0, To: 1, Target: 2}}}
	if r := Required(unreachable); !slices.Equal(r, []int{2}) {
		t.Error(r)
	}
	if r := Required(api.Code{Insns: []api.Insn{to(api.Goto, 0)}}); !slices.Equal(r, []int{0}) || len(Required(api.Code{})) != 0 {
		t.Error(r)
	}
	after := api.Code{Insns: []api.Insn{to(api.IfEq, 3), {Op: api.Return}, {Op: api.Return}, to(api.Goto, 2)}}
	if r := Required(after); !slices.Equal(r, []int{2, 3}) {
		t.Error(r)
	}
}

func TestSelectAndFrameAt(t *testing.T) { // P22.1, P22.4
	c := sample()
	l := []api.StackMap{{Index: 4}, {Index: 0}, {Index: 3}, {Index: 4, Frame: api.Frame{Uninit: true}}, {Index: 9}}
	s := Select(c, l)
	if len(s) != 3 || s[0].Index != 4 || s[1].Index != 3 || !s[2].Frame.Uninit || !reflect.DeepEqual(Select(c, s), s) {
		t.Error(s)
	}
	if f, ok := FrameAt(l, 4); !ok || f.Uninit {
		t.Error(f, ok)
	}
	if f, ok := FrameAt(l, 1); ok || f.Uninit || f.Locals != nil {
		t.Error(f, ok)
	}
}

func TestCheck(t *testing.T) { // P22.2
	c := sample()
	good := api.Frame{Locals: []api.VType{{}}, Stack: []api.VType{{Kind: api.VInt}}}
	for k, x := range []struct {
		l []api.StackMap
		e api.Errno
	}{
		{nil, api.OK}, {[]api.StackMap{{Index: 0, Frame: good}, {Index: 4, Frame: good}}, api.OK}, {[]api.StackMap{{Index: 4, Frame: good}, {Index: 0, Frame: good}}, api.ErrStackMap}, {[]api.StackMap{{Index: 0, Frame: good}, {Index: 0, Frame: good}}, api.ErrStackMap}, {[]api.StackMap{{Index: -1, Frame: good}}, api.ErrStackMap}, {[]api.StackMap{{Index: 5, Frame: good}}, api.ErrStackMap}, {[]api.StackMap{{}}, api.ErrStackMap}, {[]api.StackMap{{Frame: api.Frame{Locals: make([]api.VType, 2)}}}, api.ErrStackMap}, {[]api.StackMap{{Frame: api.Frame{Locals: make([]api.VType, 1), Stack: make([]api.VType, 2)}}}, api.ErrStackMap}, {[]api.StackMap{{Frame: api.Frame{Locals: []api.VType{{Kind: 4, PoolIndex: 1}}}}}, api.ErrStackMap}, {[]api.StackMap{{Frame: api.Frame{Locals: good.Locals, Stack: []api.VType{{Kind: 9}}}}}, api.ErrStackMap},
	} {
		if e := Check(c, x.l); e != x.e {
			t.Error(k, e)
		}
	}
}

func TestAttach(t *testing.T) { // P22.3, P22.4
	c := sample()
	c.StackMaps = []api.StackMap{{Index: 3, Frame: api.Frame{Locals: make([]api.VType, 1)}}}
	u := api.ClassModel{Name: "A", Methods: []api.Method{{Name: "n"}, {Name: "f", HasCode: true, Code: c}}}
	l := []api.StackMap{{Index: 4, Frame: api.Frame{Locals: make([]api.VType, 1)}}}
	v, e := Attach(u, 1, l)
	if e != api.OK || !reflect.DeepEqual(v.Methods[1].Code.StackMaps, l) || u.Methods[1].Code.StackMaps[0].Index != 3 {
		t.Error(v, e)
	}
	if back, e := Attach(v, 1, c.StackMaps); e != api.OK || !classmodel.Equal(back, u) {
		t.Error(back, e)
	}
	for _, x := range []struct {
		which int
		l     []api.StackMap
		e     api.Errno
	}{{-1, l, api.ErrBadArgument}, {2, l, api.ErrBadArgument}, {0, nil, api.ErrBadArgument}, {1, []api.StackMap{{Index: 9}}, api.ErrStackMap}} {
		if v, e := Attach(u, x.which, x.l); e != x.e || !classmodel.Equal(v, api.ClassModel{}) {
			t.Error(x, v, e)
		}
	}
}
