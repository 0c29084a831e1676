package opcode

import (
	"armature/api"
	"os"
	"reflect"
	"regexp"
	"strings"
	"testing"
)

// constants reads the names of the opcodes from the source of package api.
func constants(t *testing.T) []string {
	b, err := os.ReadFile("../api/api.go")
	if err != nil {
		t.Fatal(err)
	}
	s := string(b)
	s = s[strings.Index(s, "Nop = iota"):strings.Index(s, "NumOps //")]
	return regexp.MustCompile(`[A-Z]\w*`).FindAllString(strings.Replace(s, " = iota", "", 1), -1)
}

func TestNames(t *testing.T) { // P7.1, P7.5
	l := constants(t)
	if len(l) != api.NumOps {
		t.Fatal(len(l))
	}
	seen := map[string]bool{}
	for op, c := range l {
		n := Name(op)
		if n != strings.ToLower(c) || seen[n] {
			t.Error(op, n, c)
		}
		seen[n] = true
		if r, ok := Lookup(n); r != op || !ok {
			t.Error(n, r, ok)
		}
	}
	for _, op := range []int{-1, api.NumOps, 1 << 40, -1 << 63} {
		if Name(op) != "" {
			t.Error(op)
		}
	}
	for _, s := range []string{"", "NOP", "x", " nop", "numops"} {
		if op, ok := Lookup(s); op != 0 || ok {
			t.Error(s, op, ok)
		}
	}
}

func TestKindsAndSizes(t *testing.T) { // P7.2, P7.4
	kinds := map[int][2]int{1: {api.Push, api.Push}, 3: {api.IfEq, api.Goto}, 4: {api.ILoad, api.AStore}, 5: {api.IInc, api.IInc}, 6: {api.TableSwitch, api.TableSwitch}, 7: {api.LookupSwitch, api.LookupSwitch}}
	two := []int{api.Ldc, api.GetStatic, api.PutStatic, api.GetField, api.PutField, api.InvokeVirtual, api.InvokeSpecial, api.InvokeStatic, api.InvokeInterface, api.New, api.NewArray, api.CheckCast, api.InstanceOf}
	terminal := map[int]bool{api.Goto: true, api.TableSwitch: true, api.LookupSwitch: true, api.IReturn: true, api.LReturn: true, api.AReturn: true, api.Return: true, api.AThrow: true}
	sizes := map[int]int{0: 1, 1: 2, 4: 2, 2: 3, 3: 3, 5: 3, 6: 0, 7: 0, -1: 0}
	for op := -2; op < api.NumOps+2; op++ {
		want := 0
		for k, r := range kinds {
			if op >= r[0] && op <= r[1] {
				want = k
			}
		}
		for _, o := range two {
			if op == o {
				want = 2
			}
		}
		if op < 0 || op >= api.NumOps {
			want = -1
		}
		if OperandKind(op) != want || Size(op) != sizes[want] {
			t.Error(op, OperandKind(op), Size(op))
		}
		if IsBranch(op) != (want == 3 || want >= 6) || IsTerminal(op) != terminal[op] {
			t.Error(op, IsBranch(op), IsTerminal(op))
		}
	}
}

func TestTags(t *testing.T) { // P7.3, P7.5
	want := map[int][]int{api.Ldc: {3, 5, 8}, api.GetStatic: {9}, api.PutStatic: {9}, api.GetField: {9}, api.PutField: {9}, api.InvokeVirtual: {10}, api.InvokeSpecial: {10, 11}, api.InvokeStatic: {10, 11}, api.InvokeInterface: {11}, api.New: {7}, api.CheckCast: {7}, api.InstanceOf: {7}, api.NewArray: {1}}
	for op := -2; op < api.NumOps+2; op++ {
		got := ConstantTags(op)
		if len(got) != len(want[op]) || len(got) > 0 && !reflect.DeepEqual(got, want[op]) {
			t.Error(op, got)
		}
		if (len(got) > 0) != (OperandKind(op) == 2) {
			t.Error(op)
		}
		for i := range got {
			got[i] = 0
		}
	}
	if !reflect.DeepEqual(ConstantTags(api.InvokeStatic), []int{10, 11}) {
		t.Error("a list that was handed out is shared")
	}
}
