package evaluator

import (
	"armature/api"
	"armature/num"
	"armature/program"
	"strconv"
)

func (r *run) evalAll(f *frame, l []program.Expr) []value {
	var values []value
	for i := range l {
		values = append(values, r.eval(f, &l[i]))
	}
	return values
}

func truth(yes bool) value {
	if yes {
		return value{n: 1}
	}
	return value{}
}

// eval evaluates an expression: first its operands, then the expression itself as one step.
func (r *run) eval(f *frame, x *program.Expr) value {
	e := &x.Source
	if e.Kind == api.EBinary && (e.S == "&&" || e.S == "||") {
		yes := r.eval(f, &x.Args[0]).n != 0
		if yes == (e.S == "&&") {
			yes = r.eval(f, &x.Args[1]).n != 0
		}
		r.step()
		return truth(yes)
	}
	if e.Kind == api.ENew {
		r.initialize(e.Class)
	}
	args := r.evalAll(f, x.Args)
	r.step()
	switch e.Kind {
	case api.EInt, api.ELong:
		return value{n: e.N}
	case api.EString:
		return value{ref: r.literal(e.S)}
	case api.EThis:
		return value{ref: f.this}
	case api.ELocal:
		return f.find(e.S).value
	case api.EField, api.EStaticField, api.EIndex, api.ELength:
		return r.read(x, args)
	case api.EMethodCall, api.EStaticCall, api.ESuperCall, api.ENew:
		return r.call(f, x, args)
	case api.ENewArray:
		return r.newArray(x, args[0].n)
	case api.ECast, api.EInstanceOf:
		return r.test(x, args[0])
	case api.ENull:
		return value{}
	}
	return r.compute(x, args)
}

// literal returns the only object of a string literal.
func (r *run) literal(s string) *object {
	o := r.strings[s]
	if o == nil {
		o = &object{typ: classType("lang/String"), text: s}
		r.strings[s] = o
	}
	return o
}

// read evaluates the expressions that read from an object or a class.
func (r *run) read(x *program.Expr, args []value) value {
	switch x.Source.Kind {
	case api.EField:
		return r.notNull(args[0]).fields[x.Source.S]
	case api.EStaticField:
		r.initialize(x.Owner)
		return r.statics[x.Owner][x.Source.S]
	case api.EIndex:
		return *r.element(args)
	}
	return value{n: len(r.notNull(args[0]).elements)}
}

func (r *run) newArray(x *program.Expr, n int) value {
	if n < 0 || n > api.MaxArray {
		r.throw("ArraySizeException")
	}
	return value{ref: &object{typ: x.Type, elements: make([]value, n)}}
}

func (r *run) test(x *program.Expr, v value) value {
	fits := v.ref != nil && r.isA(v.ref, x.Source.Type)
	if x.Source.Kind == api.EInstanceOf {
		return truth(fits)
	}
	if v.ref != nil && !fits {
		r.throw("ClassCastException")
	}
	return v
}

func (r *run) call(f *frame, x *program.Expr, args []value) value {
	n := len(x.Method.Params)
	switch x.Source.Kind {
	case api.EStaticCall:
		r.initialize(x.Owner)
		return r.execute(x.Owner, x.Method, nil, args)
	case api.ESuperCall:
		owner, m := r.choose(r.bodies[f.class].Decl.Super, x.Source.S, n)
		return r.execute(owner, m, f.this, args)
	case api.ENew:
		o := &object{typ: classType(x.Source.Class), fields: map[string]value{}}
		r.construct(x.Owner, x.Method, o, args)
		return value{ref: o}
	}
	o := r.notNull(args[0])
	owner, m := x.Owner, x.Method
	if m.Flags&api.Private == 0 {
		owner, m = r.choose(program.MemberClass(o.typ), x.Source.S, n)
	}
	return r.execute(owner, m, o, args[1:])
}

// builtin executes a native method.
func (r *run) builtin(class, name string, this *object, args []value) value {
	switch class + "." + name {
	case "lang/Console.printInt", "lang/Console.printLong":
		r.output = append(r.output, strconv.Itoa(args[0].n))
	case "lang/Console.printString":
		r.output = append(r.output, r.notNull(args[0]).text)
	case "lang/String.length":
		return value{n: len(this.text)}
	case "lang/String.at":
		i := args[0].n
		if i < 0 || i >= len(this.text) {
			r.throw("IndexOutOfBoundsException")
		}
		return value{n: int(this.text[i])}
	case "lang/Thread.run":
	default:
		panic(abort{api.ErrNoNative})
	}
	return value{}
}

// compute evaluates the operators on numbers, and comparisons.
func (r *run) compute(x *program.Expr, args []value) value {
	e := &x.Source
	a, b := args[0], value{}
	if len(args) > 1 {
		b = args[1]
	}
	t := x.Args[0].Type
	isLong := t == api.Type{Base: 'J'}
	op := -1
	switch {
	case e.Kind == api.EToInt:
		op = api.L2I
	case e.Kind == api.EToLong:
		op = api.I2L
	case e.Kind == api.EUnary && e.S == "!":
		return truth(a.n == 0)
	case e.Kind == api.EUnary && isLong:
		op = api.LNeg
	case e.Kind == api.EUnary:
		op = api.INeg
	case program.Comparison(e.S) >= 0:
		return r.compare(program.Comparison(e.S), program.IsReference(t), a, b)
	default:
		op = program.Arithmetic(e.S)
		if isLong {
			op += api.LAdd - api.IAdd
		}
	}
	n, err := num.Compute(op, a.n, b.n)
	if err != api.OK {
		r.throw("ArithmeticException")
	}
	return value{n: n}
}

func (r *run) compare(place int, references bool, a, b value) value {
	if references {
		return truth((a.ref == b.ref) == (place == 0))
	}
	yes, _ := num.Condition(api.IfEq+place, num.Compare(a.n, b.n), 0)
	return truth(yes)
}
