package ast

import (
	"armature/api"
	"armature/lex"
	"slices"
)

// Check returns the first class with a violation, and the violation.
func Check(l []api.ClassDecl) (string, api.Errno) {
	for i, c := range l {
		e := api.OK
		switch {
		case !validClass(c):
			e = api.ErrMalformed
		case tooDeep(c):
			e = api.ErrTooDeep
		case repeats(l[:i], c):
			e = api.ErrDuplicate
		}
		if e != api.OK {
			return c.Name, e
		}
	}
	return "", api.OK
}

func isInterface(c api.ClassDecl) bool { return c.Flags&api.Interface != 0 }

func oneOf(flags, set int) bool {
	f := flags & set
	return f&(f-1) == 0
}

func validClass(c api.ClassDecl) bool {
	if !lex.IsClassName(c.Name) || !lex.IsClassName(c.Super) || len(c.Interfaces) > api.MaxInterfaces ||
		slices.ContainsFunc(c.Interfaces, func(s string) bool { return !lex.IsClassName(s) }) ||
		len(c.Fields) > api.MaxMembers || len(c.Methods) > api.MaxMembers || !validBlock(c.StaticInit) {
		return false
	}
	if isInterface(c) {
		if c.Flags&^api.Public != api.Interface|api.Abstract || len(c.Fields)+len(c.StaticInit) > 0 || c.Super != "lang/Object" {
			return false
		}
	} else if c.Flags&^(api.Public|api.Final|api.Abstract) != 0 || !oneOf(c.Flags, api.Final|api.Abstract) {
		return false
	}
	for _, f := range c.Fields {
		if f.Flags&^(visibility|api.Static|api.Final) != 0 || !oneOf(f.Flags, visibility) || !isValueType(f.Type) || !isIdentifier(f.Name) {
			return false
		}
	}
	for _, m := range c.Methods {
		if !validMethod(m) || isInterface(c) && (m.Name == "<init>" || m.Flags&^api.Abstract != api.Public) {
			return false
		}
	}
	return true
}

func validMethod(m api.MethodDecl) bool {
	if len(m.Params) > api.MaxParams || slices.ContainsFunc(m.Params, func(p api.Param) bool { return !isValueType(p.Type) || !isIdentifier(p.Name) }) {
		return false
	}
	void := m.Result == api.Type{Base: 'V'}
	if m.Name == "<init>" {
		return void && m.HasBody && m.Flags&^visibility == 0 && oneOf(m.Flags, visibility) && validBody(m.Body, true)
	}
	abstract := m.Flags&api.Abstract != 0
	if m.Flags&^(visibility|api.Static|api.Final|api.Synchronized|api.Abstract) != 0 || !oneOf(m.Flags, visibility) || !oneOf(m.Flags, api.Static|api.Synchronized) {
		return false
	}
	if abstract && m.Flags&(api.Private|api.Static|api.Final|api.Synchronized) != 0 {
		return false
	}
	return isIdentifier(m.Name) && (void || isValueType(m.Result)) && m.HasBody == !abstract && (m.HasBody || len(m.Body) == 0) && validBody(m.Body, false)
}

func validBody(l []api.Stmt, constructor bool) bool {
	if constructor && len(l) > 0 && l[0].Kind == api.SSuper {
		return len(l) <= mostStatements && ValidStmt(l[0]) && validBlock(l[1:])
	}
	return validBlock(l)
}

func tooDeep(c api.ClassDecl) bool {
	if deepBlock(c.StaticInit) {
		return true
	}
	return slices.ContainsFunc(c.Methods, func(m api.MethodDecl) bool { return deepBlock(m.Body) })
}

func deepBlock(l []api.Stmt) bool {
	return slices.ContainsFunc(l, func(s api.Stmt) bool { return stmtDepth(s) > api.MaxDepth || deepExprs(s) })
}

// deepExprs looks at the expressions in a statement and the statements inside of it.
func deepExprs(s api.Stmt) bool {
	deep := func(e api.Expr) bool { return Depth(e) > api.MaxDepth }
	if s.Kind == api.SSuper {
		return slices.ContainsFunc(s.Expr.Args, deep)
	}
	return deep(s.Expr) || deep(s.Target) || slices.ContainsFunc(s.Body, deepExprs) || slices.ContainsFunc(s.Alternative, deepExprs)
}

// signature is what distinguishes methods.
type signature struct {
	name   string
	params int
}

func repeats(earlier []api.ClassDecl, c api.ClassDecl) bool {
	if slices.ContainsFunc(earlier, func(d api.ClassDecl) bool { return d.Name == c.Name }) {
		return true
	}
	names, fields, methods := map[string]bool{}, map[string]bool{}, map[signature]bool{}
	for _, s := range c.Interfaces {
		names[s] = true
	}
	for _, f := range c.Fields {
		fields[f.Name] = true
	}
	for _, m := range c.Methods {
		methods[signature{m.Name, len(m.Params)}] = true
	}
	return len(names) < len(c.Interfaces) || len(fields) < len(c.Fields) || len(methods) < len(c.Methods)
}
