package parse

import "armature/api"

// operators returns the binary operators of a level of precedence, the lowest first; nil beyond the last level.
func operators(level int) []string {
	switch level {
	case 0:
		return []string{"||"}
	case 1:
		return []string{"&&"}
	case 2:
		return []string{"|"}
	case 3:
		return []string{"^"}
	case 4:
		return []string{"&"}
	case 5:
		return []string{"==", "!="}
	case relational:
		return []string{"<", "<=", ">", ">="}
	case 7:
		return []string{"<<", ">>", ">>>"}
	case 8:
		return []string{"+", "-"}
	case 9:
		return []string{"*", "/", "%"}
	}
	return nil
}

// relational is the level to which the postfix forms is and as belong.
const relational = 6

func (p *parser) expr() api.Expr { return p.binary(0) }

func (p *parser) binary(level int) api.Expr {
	signs := operators(level)
	if signs == nil {
		return p.prefix()
	}
	e := p.binary(level + 1)
	for {
		s, ok := p.acceptOne(signs)
		switch {
		case ok:
			e = api.Expr{Kind: api.EBinary, S: s, Args: []api.Expr{e, p.binary(level + 1)}}
		case level == relational && p.accept("is"):
			e = api.Expr{Kind: api.EInstanceOf, Type: p.typ(), Args: []api.Expr{e}}
		case level == relational && p.accept("as"):
			e = api.Expr{Kind: api.ECast, Type: p.typ(), Args: []api.Expr{e}}
		default:
			return e
		}
	}
}

func (p *parser) acceptOne(signs []string) (string, bool) {
	for _, s := range signs {
		if p.accept(s) {
			return s, true
		}
	}
	return "", false
}

func (p *parser) prefix() api.Expr {
	if s, ok := p.acceptOne([]string{"-", "!"}); ok {
		return api.Expr{Kind: api.EUnary, S: s, Args: []api.Expr{p.prefix()}}
	}
	return p.postfix(p.operand())
}

func (p *parser) postfix(e api.Expr) api.Expr {
	for {
		switch {
		case p.accept("."):
			s := p.identifier()
			if p.sees("(") {
				e = api.Expr{Kind: api.EMethodCall, S: s, Args: append([]api.Expr{e}, p.arguments()...)}
			} else {
				e = api.Expr{Kind: api.EField, S: s, Args: []api.Expr{e}}
			}
		case p.accept("["):
			e = api.Expr{Kind: api.EIndex, Args: []api.Expr{e, p.expr()}}
			p.expect("]")
		default:
			return e
		}
	}
}

func (p *parser) arguments() []api.Expr {
	p.expect("(")
	if p.accept(")") {
		return nil
	}
	l := []api.Expr{p.expr()}
	for p.accept(",") {
		l = append(l, p.expr())
	}
	p.expect(")")
	return l
}

// operand selects the rule for an operand by its first token.
func (p *parser) operand() api.Expr {
	rule := p.literal
	switch t := p.next(); {
	case isIdentifier(t):
		rule = p.local
	case isClassToken(t):
		rule = p.static
	case isMark(t, "super"):
		rule = p.super
	case isMark(t, "new"):
		rule = p.create
	case isMark(t, "len"), isMark(t, "int"), isMark(t, "long"):
		rule = p.function
	case isMark(t, "("):
		rule = p.condition
	}
	return rule()
}

func (p *parser) literal() api.Expr {
	t := p.next()
	e := api.Expr{N: t.N, S: t.S}
	switch {
	case t.Kind == api.TInt:
		e.Kind = api.EInt
	case t.Kind == api.TLong:
		e.Kind = api.ELong
	case t.Kind == api.TString:
		e.Kind = api.EString
	case isMark(t, "null"):
		e = api.Expr{Kind: api.ENull}
	case isMark(t, "this"):
		e = api.Expr{Kind: api.EThis}
	default:
		p.fail()
	}
	p.at++
	return e
}

func (p *parser) local() api.Expr { return api.Expr{Kind: api.ELocal, S: p.identifier()} }

func (p *parser) static() api.Expr {
	e := api.Expr{Kind: api.EStaticField, Class: p.className()}
	p.expect(".")
	e.S = p.identifier()
	if p.sees("(") {
		e.Kind = api.EStaticCall
		e.Args = p.arguments()
	}
	return e
}

func (p *parser) super() api.Expr {
	p.expect("super", ".")
	return api.Expr{Kind: api.ESuperCall, S: p.identifier(), Args: p.arguments()}
}

func (p *parser) create() api.Expr {
	p.expect("new")
	t := p.baseType()
	if t.Base == 'L' && p.sees("(") {
		return api.Expr{Kind: api.ENew, Class: t.Name, Args: p.arguments()}
	}
	p.expect("[")
	for p.accept("]") {
		t.Dim++
		p.expect("[")
	}
	e := api.Expr{Kind: api.ENewArray, Type: t, Args: []api.Expr{p.expr()}}
	p.expect("]")
	return e
}

func (p *parser) function() api.Expr {
	kind := api.ELength
	switch {
	case p.accept("int"):
		kind = api.EToInt
	case p.accept("long"):
		kind = api.EToLong
	default:
		p.expect("len")
	}
	return api.Expr{Kind: kind, Args: []api.Expr{p.condition()}}
}
