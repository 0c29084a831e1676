package promises

import (
	"armature/api"
	"armature/asm"
	"armature/ast"
	"armature/attr"
	"armature/basicops"
	"armature/builtin"
	"armature/classmodel"
	"armature/classspace"
	"armature/classverify"
	"armature/code"
	"armature/codegen"
	"armature/console"
	"armature/constraint"
	"armature/dataflow"
	"armature/desc"
	"armature/dis"
	"armature/evaluator"
	"armature/file"
	"armature/flow"
	"armature/format"
	"armature/heap"
	"armature/hier"
	"armature/insn"
	"armature/lex"
	"armature/loaderview"
	"armature/machine"
	"armature/mapcheck"
	"armature/merge"
	"armature/name"
	"armature/num"
	"armature/octet"
	"armature/opcode"
	"armature/parse"
	"armature/pool"
	"armature/poolcode"
	"armature/rtype"
	"armature/stackmap"
	"armature/transfer"
	"armature/typecheck"
	"armature/vtype"
	"math/rand"
	"reflect"
	"testing"
)

// functions that accept any arguments.
func functions() []any {
	return []any{num.WrapInt32, num.Compute, num.Compare, num.Condition, octet.Put, octet.Unsigned, octet.Signed, octet.PutString, octet.GetString, name.IsClassName, name.IsMemberName, name.Package, name.SimpleName, name.Join, name.HasPrefix,
		desc.Valid, desc.Format, desc.Parse, desc.FormatSignature, desc.ParseSignature, desc.Element, desc.ArrayOf, desc.Kind, desc.ParseClassConstant, desc.FormatClassConstant, desc.ClassNames, pool.At, pool.Check, pool.UTF8, pool.ClassName, pool.StringValue, pool.NameAndType, pool.MemberRef, pool.Add, pool.AddUTF8, pool.AddClass, pool.AddString, pool.AddMemberRef, poolcode.Encode, poolcode.Decode,
		opcode.Name, opcode.Lookup, opcode.OperandKind, opcode.Size, opcode.ConstantTags, opcode.IsTerminal, opcode.IsBranch, insn.Check, insn.Targets, insn.Offsets, insn.Encode, insn.Decode, insn.IndexAt, code.Check, code.BranchTargets, code.BlockStarts, attr.EncodeCode, attr.DecodeCode, attr.EncodeIndexes, attr.DecodeIndexes, file.Encode, file.Decode, file.EncodedSize, format.Check, format.ValidFlags,
		classmodel.FromFile, classmodel.ToFile, classmodel.Check, classmodel.FindMethod, classmodel.FindField, classmodel.ToSymbolic, classmodel.ToRaw, classmodel.Equal, dis.Disassemble, dis.FormatInstruction, dis.Quote, asm.Assemble, asm.ParseInstruction, asm.Unquote, hier.Check, hier.Lookup, hier.IsSubclass, hier.Superclasses, hier.CommonSuperclass, hier.Interfaces, vtype.Valid, vtype.FromType, vtype.TypeAssignable, vtype.Assignable, vtype.Format, vtype.Equal, merge.Types, merge.VTypes, merge.Frames, merge.Assignable, merge.Equal,
		flow.Successors, flow.Handlers, flow.Reachable, flow.Predecessors, flow.BackEdges, flow.Distances, transfer.Initial, transfer.Apply, transfer.HandlerFrame, transfer.Check, dataflow.Infer, dataflow.Sweep, dataflow.IsFixpoint, stackmap.Required, stackmap.Select, stackmap.FrameAt, stackmap.Check, stackmap.Attach, mapcheck.CheckMethod, mapcheck.Trace, classverify.Verify, classverify.VerifyWithMaps, classverify.AddMaps, classverify.FrameAt,
		classspace.New, classspace.Valid, classspace.Equal, constraint.Consistent, loaderview.ReferencedNames, rtype.Element, rtype.ArrayOf, rtype.Kind, heap.Valid, builtin.NewClassSpace, builtin.NewMachine, builtin.ExceptionClass, machine.New, basicops.Handles, basicops.Execute, basicops.Run,
		lex.Tokenize, lex.IsClassName, lex.FormatToken, lex.Join, ast.Check, ast.ValidExpr, ast.ValidStmt, ast.Depth, ast.Format, ast.FormatExpr, ast.Equal, parse.ParseProgram, parse.ParseExpr, parse.ParseBlock, typecheck.Check, typecheck.TypeOf, typecheck.CheckStmt, typecheck.Terminates, typecheck.Assignable, typecheck.FindField, typecheck.FindMethod, typecheck.Superclasses, codegen.Compile, codegen.CompileClass, codegen.CompileStore, codegen.StackHeight, evaluator.EvalConstant, console.Run, console.SplitLine}
}

var words = []string{"", "A", "B", "a", "lang/Object", "lang/Throwable", "lang/String", "I", "J", "V", "LA;", "[I", "[LA;", "(I)V", "()V", "()I", "(LA;J)LA;", "<init>", "<clinit>", "main", "+", "-", "==", "!", "\x00\x01\x02", "ARMA\x00\x01\x00\x00", "\"", "class A extends lang::Object { }", "1 + 2", "class 1 A extends B", "end", "begin", "# x", "loader =0", "\n", "iload 0", "Code"}

// fill sets a value to something random of its type.
func fill(r *rand.Rand, v reflect.Value, depth int) {
	switch v.Kind() {
	case reflect.Int:
		n := []int{0, 0, 0, 1, 1, 2, 3, 4, 5, 7, 8, 9, 16, 512, 1024, -1, 1 << 31, -1 << 63, 1<<63 - 1, r.Intn(90)}
		v.SetInt(int64(n[r.Intn(len(n))]))
	case reflect.Uint8:
		v.SetUint(uint64("IJLV\x00"[r.Intn(5)]))
	case reflect.Bool:
		v.SetBool(r.Intn(2) == 0)
	case reflect.String:
		v.SetString(words[r.Intn(len(words))])
	case reflect.Slice:
		n := r.Intn(4)
		if depth <= 0 || n == 0 {
			return
		}
		l := reflect.MakeSlice(v.Type(), n, n)
		for i := range n {
			fill(r, l.Index(i), depth-1)
		}
		v.Set(l)
	case reflect.Struct:
		for i := range v.NumField() {
			fill(r, v.Field(i), depth)
		}
	}
}

// build returns the same random arguments for the same seed.
func build(seed int64, fn reflect.Value) []reflect.Value {
	r := rand.New(rand.NewSource(seed))
	var args []reflect.Value
	for i := range fn.Type().NumIn() {
		v := reflect.New(fn.Type().In(i)).Elem()
		fill(r, v, 5)
		args = append(args, v)
	}
	return args
}

func TestAnyArguments(t *testing.T) { // general rules 1, 3, 4 and 5
	for k, f := range functions() {
		fn := reflect.ValueOf(f)
		for seed := range int64(arguments) {
			args := build(seed, fn)
			first, second := fn.Call(args), fn.Call(args)
			for i, a := range build(seed, fn) {
				if !reflect.DeepEqual(a.Interface(), args[i].Interface()) {
					t.Fatal(k, "an argument has changed", a)
				}
			}
			for i := range first {
				if !reflect.DeepEqual(first[i].Interface(), second[i].Interface()) {
					t.Fatal(k, i, first[i], second[i])
				}
			}
			if e, ok := first[len(first)-1].Interface().(api.Errno); ok && e != api.OK && !onlyZero(first, args) {
				t.Fatal(k, e, first)
			}
		}
	}
}

// onlyZero reports whether the results beside an error are zero, arguments, numbers, or the names that some checks tell.
func onlyZero(results, args []reflect.Value) bool {
	for _, v := range results[:len(results)-1] {
		ok := v.IsZero() || v.Kind() == reflect.Int || v.Kind() == reflect.String || v.Kind() == reflect.Slice && v.Len() == 0
		// basicops.Run tells how far it came.
		ok = ok || v.Type() == reflect.TypeOf(api.Activation{})
		for _, a := range args {
			ok = ok || a.Type() == v.Type() && reflect.DeepEqual(a.Interface(), v.Interface())
		}
		if !ok {
			return false
		}
	}
	return true
}

const arguments = 400
