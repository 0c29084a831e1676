package evaluator

import (
	"armature/api"
	"armature/program"
	"slices"
)

// local is a local variable with its value.
type local struct {
	name  string
	value value
}

// frame is a call: the class whose code it executes, the receiver, the local variables and the result.
type frame struct {
	class  string
	this   *object
	locals []local
	result value
}

// find returns a local variable.
func (f *frame) find(s string) *local {
	i := slices.IndexFunc(f.locals, func(l local) bool { return l.name == s })
	return &f.locals[i]
}

// enter executes a body as a call.
func (r *run) enter(f *frame, body []program.Stmt) {
	if r.calls >= api.MaxDepth {
		panic(abort{api.ErrTooDeep})
	}
	r.calls++
	r.block(f, body)
	r.calls--
}

// method returns the typed method that a class of the program declares.
func (r *run) method(class, name string, n int) *program.Method {
	c := r.bodies[class]
	i := slices.IndexFunc(c.Methods, func(m program.Method) bool { return m.Decl.Name == name && len(m.Decl.Params) == n })
	return &c.Methods[i]
}

func newFrame(class string, this *object, m api.MethodDecl, args []value) *frame {
	f := &frame{class: class, this: this}
	for i, p := range m.Params {
		f.locals = append(f.locals, local{p.Name, args[i]})
	}
	return f
}

// execute executes a method that a class declares.
func (r *run) execute(class string, m api.MethodDecl, this *object, args []value) value {
	if !r.IsOwn(class) {
		return r.builtin(class, m.Name, this, args)
	}
	f := newFrame(class, this, m, args)
	r.enter(f, r.method(class, m.Name, len(m.Params)).Body)
	return f.result
}

// construct executes a constructor.
func (r *run) construct(class string, m api.MethodDecl, this *object, args []value) {
	if !r.IsOwn(class) {
		if len(args) == 1 {
			this.fields["referent"] = args[0]
		}
		return
	}
	if r.calls >= api.MaxDepth {
		panic(abort{api.ErrTooDeep})
	}
	r.calls++
	f := newFrame(class, this, m, args)
	c := r.bodies[class]
	var body *program.Method
	if !c.NeedsConstructor {
		body = r.method(class, m.Name, len(m.Params))
	}
	if body == nil || !body.CallsSuper {
		super, _ := r.Declared(c.Decl.Super, program.Constructor, 0)
		r.construct(c.Decl.Super, super, this, nil)
	}
	if body != nil {
		r.block(f, body.Body)
	}
	r.calls--
}

// choose selects an instance method for a class.
func (r *run) choose(class, name string, n int) (string, api.MethodDecl) {
	for _, s := range r.Superclasses(class) {
		if m, ok := r.Declared(s, name, n); ok && m.Flags&api.Static == 0 {
			return s, m
		}
	}
	for _, s := range r.Specific(class, name, n) {
		if m, _ := r.Declared(s, name, n); m.HasBody {
			return s, m
		}
	}
	// A program that has been checked has an implementation of each method that it calls.
	return "", api.MethodDecl{}
}

// block executes statements and reports whether the method has returned.
func (r *run) block(f *frame, l []program.Stmt) bool {
	n := len(f.locals)
	for i := range l {
		if r.exec(f, &l[i]) {
			return true
		}
	}
	f.locals = f.locals[:n]
	return false
}

// exec executes a statement and reports whether the method has returned.
func (r *run) exec(f *frame, s *program.Stmt) bool {
	r.step()
	switch t := s.Source; t.Kind {
	case api.SLocal:
		v := r.eval(f, &s.Expr)
		f.locals = append(f.locals, local{t.Name, v})
	case api.SAssign:
		r.assign(f, s)
	case api.SExpr:
		r.eval(f, &s.Expr)
	case api.SIf:
		if r.eval(f, &s.Expr).n != 0 {
			return r.block(f, s.Body)
		}
		return r.block(f, s.Alternative)
	case api.SWhile:
		for r.eval(f, &s.Expr).n != 0 {
			if r.block(f, s.Body) {
				return true
			}
		}
	case api.SReturn:
		if t.Expr.Kind != 0 {
			f.result = r.eval(f, &s.Expr)
		}
		return true
	case api.SThrow:
		panic(thrown{r.notNull(r.eval(f, &s.Expr))})
	case api.STry:
		return r.try(f, s)
	case api.SSync:
		r.notNull(r.eval(f, &s.Expr))
		return r.block(f, s.Body)
	case api.SBlock:
		return r.block(f, s.Body)
	case api.SSuper:
		r.construct(s.Expr.Owner, s.Expr.Method, f.this, r.evalAll(f, s.Expr.Args))
	}
	return false
}

func (r *run) try(f *frame, s *program.Stmt) bool {
	n := len(f.locals)
	returned := false
	t := r.protect(func() { returned = r.block(f, s.Body) })
	if t == nil {
		return returned
	}
	if !r.isA(t, s.Source.Type) {
		panic(thrown{t})
	}
	f.locals = append(f.locals[:n], local{s.Source.Name, value{ref: t}})
	returned = r.block(f, s.Alternative)
	if !returned {
		f.locals = f.locals[:n]
	}
	return returned
}

func (r *run) assign(f *frame, s *program.Stmt) {
	x := &s.Target
	operands := r.evalAll(f, x.Args)
	v := r.eval(f, &s.Expr)
	switch x.Source.Kind {
	case api.ELocal:
		f.find(x.Source.S).value = v
	case api.EField:
		r.notNull(operands[0]).fields[x.Source.S] = v
	case api.EStaticField:
		r.initialize(x.Owner)
		if r.statics[x.Owner] == nil {
			r.statics[x.Owner] = map[string]value{}
		}
		r.statics[x.Owner][x.Source.S] = v
	case api.EIndex:
		e := r.element(operands)
		t := operands[0].ref.typ
		t.Dim--
		if v.ref != nil && !r.isA(v.ref, t) {
			r.throw("ArrayStoreException")
		}
		*e = v
	}
}

// element returns the place of an array and an index.
func (r *run) element(operands []value) *value {
	a := r.notNull(operands[0])
	i := operands[1].n
	if i < 0 || i >= len(a.elements) {
		r.throw("IndexOutOfBoundsException")
	}
	return &a.elements[i]
}
