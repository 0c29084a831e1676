package ast

import (
	"armature/api"
	"armature/lex"
)

// printer collects the tokens of a program.
type printer struct{ tokens []api.Token }

func (p *printer) token(kind int, s string, n int) {
	p.tokens = append(p.tokens, api.Token{Kind: kind, S: s, N: n})
}

func (p *printer) word(s string) { p.token(api.TKeyword, s, 0) }
func (p *printer) name(s string) { p.token(api.TName, s, 0) }

func (p *printer) sign(l ...string) {
	for _, s := range l {
		p.token(api.TOperator, s, 0)
	}
}

// Format returns the source code of a valid program.
func Format(l []api.ClassDecl) (string, api.Errno) {
	if _, e := Check(l); e != api.OK {
		return "", e
	}
	var p printer
	for _, c := range l {
		p.class(c)
	}
	return lex.Join(p.tokens)
}

// FormatExpr returns the source code of an expression.
func FormatExpr(e api.Expr) (string, api.Errno) {
	if !ValidExpr(e) {
		return "", api.ErrMalformed
	}
	if Depth(e) > api.MaxDepth {
		return "", api.ErrTooDeep
	}
	var p printer
	p.expr(e)
	return lex.Join(p.tokens)
}

func (p *printer) base(t api.Type) {
	switch t.Base {
	case 'I':
		p.word("int")
	case 'J':
		p.word("long")
	case 'V':
		p.word("void")
	default:
		p.name(t.Name)
	}
}

func (p *printer) typ(t api.Type) {
	p.base(t)
	for range t.Dim {
		p.sign("[", "]")
	}
}

// modifiers writes flags in the order of the grammar.
func (p *printer) modifiers(flags int) {
	for _, m := range [...]struct {
		flag int
		word string
	}{{api.Public, "public"}, {api.Private, "private"}, {api.Protected, "protected"}, {api.Static, "static"}, {api.Final, "final"}, {api.Synchronized, "sync"}, {api.Abstract, "abstract"}} {
		if flags&m.flag != 0 {
			p.word(m.word)
		}
	}
}

func (p *printer) names(word string, l []string) {
	for i, s := range l {
		if i == 0 {
			p.word(word)
		} else {
			p.sign(",")
		}
		p.name(s)
	}
}

func (p *printer) class(c api.ClassDecl) {
	if isInterface(c) {
		p.modifiers(c.Flags & api.Public)
		p.word("interface")
		p.name(c.Name)
		p.names("extends", c.Interfaces)
	} else {
		p.modifiers(c.Flags)
		p.word("class")
		p.name(c.Name)
		p.word("extends")
		p.name(c.Super)
		p.names("implements", c.Interfaces)
	}
	p.sign("{")
	for _, f := range c.Fields {
		p.modifiers(f.Flags)
		p.typ(f.Type)
		p.name(f.Name)
		p.sign(";")
	}
	if len(c.StaticInit) > 0 {
		p.word("static")
		p.block(c.StaticInit)
	}
	for _, m := range c.Methods {
		p.method(m)
	}
	p.sign("}")
}

func (p *printer) method(m api.MethodDecl) {
	p.modifiers(m.Flags)
	if m.Name == "<init>" {
		p.word("new")
	} else {
		p.typ(m.Result)
		p.name(m.Name)
	}
	p.sign("(")
	for i, x := range m.Params {
		if i > 0 {
			p.sign(",")
		}
		p.typ(x.Type)
		p.name(x.Name)
	}
	p.sign(")")
	if m.HasBody {
		p.block(m.Body)
	} else {
		p.sign(";")
	}
}

func (p *printer) block(l []api.Stmt) {
	p.sign("{")
	for _, s := range l {
		p.stmt(s)
	}
	p.sign("}")
}

func (p *printer) condition(e api.Expr) {
	p.sign("(")
	p.expr(e)
	p.sign(")")
}

func (p *printer) stmt(s api.Stmt) {
	switch s.Kind {
	case api.SIf:
		p.word("if")
		p.condition(s.Expr)
		p.block(s.Body)
		if len(s.Alternative) > 0 {
			p.word("else")
			p.block(s.Alternative)
		}
	case api.SWhile:
		p.word("while")
		p.condition(s.Expr)
		p.block(s.Body)
	case api.SSync:
		p.word("sync")
		p.condition(s.Expr)
		p.block(s.Body)
	case api.STry:
		p.word("try")
		p.block(s.Body)
		p.word("catch")
		p.sign("(")
		p.typ(s.Type)
		p.name(s.Name)
		p.sign(")")
		p.block(s.Alternative)
	case api.SBlock:
		p.block(s.Body)
	default:
		p.simple(s)
		p.sign(";")
	}
}

// simple writes a statement that ends with a semicolon.
func (p *printer) simple(s api.Stmt) {
	switch s.Kind {
	case api.SLocal:
		p.typ(s.Type)
		p.name(s.Name)
		p.sign("=")
		p.expr(s.Expr)
	case api.SAssign:
		p.expr(s.Target)
		p.sign("=")
		p.expr(s.Expr)
	case api.SExpr:
		p.expr(s.Expr)
	case api.SReturn:
		p.word("return")
		if s.Expr.Kind != 0 {
			p.expr(s.Expr)
		}
	case api.SThrow:
		p.word("throw")
		p.expr(s.Expr)
	case api.SSuper:
		p.word("super")
		p.arguments(s.Expr.Args)
	}
}

func (p *printer) arguments(l []api.Expr) {
	p.sign("(")
	for i, e := range l {
		if i > 0 {
			p.sign(",")
		}
		p.expr(e)
	}
	p.sign(")")
}

// operand encloses an expression in parentheses if it is made with an operator.
func (p *printer) operand(e api.Expr) {
	switch e.Kind {
	case api.EUnary, api.EBinary, api.ECast, api.EInstanceOf:
		p.condition(e)
	default:
		p.expr(e)
	}
}

func (p *printer) expr(e api.Expr) {
	switch e.Kind {
	case api.EInt:
		p.token(api.TInt, "", e.N)
	case api.ELong:
		p.token(api.TLong, "", e.N)
	case api.EString:
		p.token(api.TString, e.S, 0)
	case api.ENull:
		p.word("null")
	case api.EThis:
		p.word("this")
	case api.ELocal:
		p.name(e.S)
	case api.EUnary:
		p.sign(e.S)
		p.operand(e.Args[0])
	case api.EBinary:
		p.operand(e.Args[0])
		p.sign(e.S)
		p.operand(e.Args[1])
	case api.ECast, api.EInstanceOf:
		p.operand(e.Args[0])
		if e.Kind == api.ECast {
			p.word("as")
		} else {
			p.word("is")
		}
		p.typ(e.Type)
	default:
		p.primary(e)
	}
}

func (p *printer) primary(e api.Expr) {
	switch e.Kind {
	case api.EField, api.EMethodCall:
		p.operand(e.Args[0])
		p.sign(".")
		p.name(e.S)
		if e.Kind == api.EMethodCall {
			p.arguments(e.Args[1:])
		}
	case api.EStaticField, api.EStaticCall:
		p.name(e.Class)
		p.sign(".")
		p.name(e.S)
		if e.Kind == api.EStaticCall {
			p.arguments(e.Args)
		}
	case api.ESuperCall:
		p.word("super")
		p.sign(".")
		p.name(e.S)
		p.arguments(e.Args)
	case api.EIndex:
		p.operand(e.Args[0])
		p.sign("[")
		p.expr(e.Args[1])
		p.sign("]")
	case api.ENew:
		p.word("new")
		p.name(e.Class)
		p.arguments(e.Args)
	case api.ENewArray:
		p.word("new")
		p.typ(e.Type)
		p.sign("[")
		p.expr(e.Args[0])
		p.sign("]")
	case api.ELength:
		p.word("len")
		p.condition(e.Args[0])
	case api.EToInt:
		p.word("int")
		p.condition(e.Args[0])
	case api.EToLong:
		p.word("long")
		p.condition(e.Args[0])
	}
}
