package codegen

import (
	"armature/api"
	"armature/desc"
)

// StackHeight returns the maximum stack height of instructions that are executed in sequence.
func StackHeight(l []api.Insn) int {
	height, most := 0, 0
	for _, i := range l {
		pops, pushes := effect(i)
		height = max(0, height-pops) + pushes
		most = max(most, height)
	}
	return most
}

// effect returns how many values an instruction pops and pushes.
func effect(i api.Insn) (int, int) {
	switch op := i.Op; {
	case op < api.AConstNull || op > api.MonitorExit:
		return 0, 0
	case op <= api.ALoad:
		return 0, 1
	case op <= api.AStore:
		return 1, 0
	case op <= api.Swap:
		return stackEffect(op)
	case op <= api.L2I:
		return numberEffect(op)
	case op <= api.LookupSwitch:
		return branchEffect(op), 0
	case op <= api.AReturn:
		return 1, 0
	case op >= api.InvokeVirtual && op <= api.InvokeInterface:
		return callEffect(i)
	}
	return objectEffect(i.Op)
}

func stackEffect(op int) (int, int) {
	switch op {
	case api.Pop:
		return 1, 0
	case api.Dup:
		return 1, 2
	case api.DupX1:
		return 2, 3
	case api.Swap:
		return 2, 2
	}
	return 0, 0
}

func numberEffect(op int) (int, int) {
	switch op {
	case api.INeg, api.LNeg, api.I2L, api.L2I:
		return 1, 1
	}
	return 2, 1
}

func branchEffect(op int) int {
	switch {
	case op == api.Goto:
		return 0
	case op >= api.IfICmpEq && op <= api.IfACmpNe:
		return 2
	}
	return 1
}

func callEffect(i api.Insn) (int, int) {
	pops, pushes := 0, 1
	if g, e := desc.ParseSignature(i.Ref.Desc); e == api.OK {
		pops = len(g.Params)
		if g.Result.Base == 'V' {
			pushes = 0
		}
	}
	if i.Op != api.InvokeStatic {
		pops++
	}
	if i.Op == api.InvokeSpecial && i.Ref.Name == "<init>" {
		pushes = 0
	}
	return pops, pushes
}

func objectEffect(op int) (int, int) {
	switch op {
	case api.Return:
		return 0, 0
	case api.GetStatic, api.New:
		return 0, 1
	case api.PutStatic, api.AThrow, api.MonitorEnter, api.MonitorExit:
		return 1, 0
	case api.PutField:
		return 2, 0
	case api.IALoad, api.LALoad, api.AALoad:
		return 2, 1
	case api.IAStore, api.LAStore, api.AAStore:
		return 3, 0
	}
	return 1, 1
}
