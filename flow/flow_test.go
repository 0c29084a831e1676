package flow

import (
	"armature/api"
	"reflect"
	"slices"
	"testing"
)

func to(op, n int) api.Insn { return api.Insn{Op: op, To: n} }

func example() api.Code {
	return api.Code{Insns: []api.Insn{{Op: api.Push}, to(api.IfEq, 3), to(api.Goto, 0), {Op: api.Return}}}
}

// large has a switch, a loop, handlers, unreachable code and things that do not exist.
func large() api.Code {
	return api.Code{Insns: []api.Insn{
		{Op: api.Push}, {Op: api.TableSwitch, To: 6, Tos: []int{2, 4, 2, 99, -1}}, {}, to(api.Goto, 1), {Op: api.AThrow}, {}, to(api.IfNull, 6), {Op: 500, To: 2}, {Op: api.Return}, {}, to(api.Goto, 77)},
		Handlers: []api.Handler{{From: 2, To: 4, Target: 8}, {From: 0, To: 99, Target: 11}, {From: 3, To: 3, Target: 5}, {From: -5, To: 3, Target: 0}, {From: 9, To: 10, Target: 9}}}
}

func TestSuccessorsAndHandlers(t *testing.T) { // P19.1
	c := large()
	for at, want := range map[int][]int{-1: nil, 11: nil, 0: {1}, 1: {2, 4, 6}, 2: {3}, 3: {1}, 4: nil, 5: {6}, 6: {6, 7}, 7: {8}, 8: nil, 9: {10}, 10: nil} {
		if s := Successors(c, at); !slices.Equal(s, want) {
			t.Error(at, s)
		}
	}
	for at, want := range map[int][]int{-1: nil, 0: {3}, 2: {0, 3}, 3: {0}, 4: nil, 9: {4}, 11: nil} {
		if s := Handlers(c, at); !slices.Equal(s, want) {
			t.Error(at, s)
		}
	}
	if s := Successors(example(), 1); !slices.Equal(s, []int{2, 3}) {
		t.Error(s)
	}
	if s := Successors(api.Code{Insns: []api.Insn{to(api.IfEq, 1), {Op: api.Return}}}, 0); !slices.Equal(s, []int{1}) {
		t.Error(s)
	}
}

func TestGraph(t *testing.T) { // P19.2
	c := example()
	if r := Reachable(c); !slices.Equal(r, []bool{true, true, true, true}) {
		t.Error(r)
	}
	if p := Predecessors(c); !reflect.DeepEqual(p, [][]int{{2}, {0}, {1}, {1}}) {
		t.Error(p)
	}
	if b := BackEdges(c); !slices.Equal(b, [][2]int{{2, 0}}) {
		t.Error(b)
	}
	if d := Distances(c); !slices.Equal(d, []int{0, 1, 2, 2}) {
		t.Error(d)
	}
	c = large()
	if r := Reachable(c); !slices.Equal(r, []bool{true, true, true, true, true, false, true, true, true, false, false}) {
		t.Error(r)
	}
	if b := BackEdges(c); !slices.Equal(b, [][2]int{{3, 1}, {6, 6}}) {
		t.Error(b)
	}
	if d := Distances(c); !slices.Equal(d, []int{0, 1, 2, 3, 2, -1, 2, 3, 3, -1, -1}) {
		t.Error(d)
	}
	if p := Predecessors(c); !reflect.DeepEqual(p, [][]int{{0, 1, 2}, {0, 3}, {1}, {2}, {1}, nil, {1, 5, 6}, {6}, {2, 3, 7}, {9}, {9}}) {
		t.Error(p)
	}
	var none api.Code
	none.Handlers = []api.Handler{{To: 1}}
	if len(Reachable(none)) != 0 || len(Predecessors(none)) != 0 || len(BackEdges(none)) != 0 || len(Distances(none)) != 0 {
		t.Error("no instructions")
	}
}

func TestLaws(t *testing.T) { // P19.3
	for _, c := range []api.Code{example(), large()} {
		r, d, p := Reachable(c), Distances(c), Predecessors(c)
		for at := range c.Insns {
			for _, to := range edges(c, at) {
				if r[at] && !r[to] || !slices.Contains(p[to], at) {
					t.Error(at, to)
				}
			}
			if r[at] != (d[at] >= 0) {
				t.Error(at)
			}
			if at == 0 || !r[at] {
				continue
			}
			least := -1
			for _, b := range p[at] {
				if d[b] >= 0 && (least < 0 || d[b] < least) {
					least = d[b]
				}
			}
			if d[at] != least+1 {
				t.Error(at, d[at], least)
			}
		}
	}
}
