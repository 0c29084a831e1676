package promises

import (
	"math/rand"
	"strconv"
	"strings"
)

type variable struct{ name, typ string }

// writer writes a random program. Loops are bounded, and a method calls only earlier ones.
type writer struct {
	*rand.Rand
	locals  []variable
	next    int
	methods int
	result  string
	static  bool
}

func (w *writer) one(l ...string) string { return l[w.Intn(len(l))] }

func (w *writer) local(types ...string) (string, bool) {
	var l []string
	for _, v := range w.locals {
		for _, t := range types {
			if v.typ == t {
				l = append(l, v.name)
			}
		}
	}
	if len(l) == 0 {
		return "", false
	}
	return w.one(l...), true
}

func (w *writer) expr(t string, d int) string {
	if d <= 0 || w.Intn(6) == 0 {
		return w.leaf(t)
	}
	d--
	e := func(t string) string { return w.expr(t, d) }
	switch t {
	case "int":
		return w.intExpr(e)
	case "long":
		return w.one("( "+e("long")+" "+w.one("+", "-", "*", "/", "%")+" "+e("long")+" )", "long ( "+e("int")+" )", e("A")+" . y", "( - "+e("long")+" )")
	case "A":
		return w.one("new A ( "+e("int")+" )", e("A")+" . next", e("A")+" . self ( )", "( "+e("lang::Object")+" as A )", e("A [ ]")+" [ "+e("int")+" ]", "( "+e("B")+" as A )")
	case "B":
		return w.one("new B ( )", "( "+e("A")+" as B )", "( "+e("I")+" as B )")
	case "I":
		return w.one("( "+e("B")+" as I )", "( "+e("A")+" as I )", "( "+e("lang::Object")+" as I )")
	case "int [ ]":
		return w.one("new int [ "+e("int")+" & 3 ]", e("A")+" . arr")
	case "A [ ]":
		return w.one("new A [ "+e("int")+" & 3 ]", "( new B [ 2 ] as A [ ] )", "( "+e("lang::Object")+" as A [ ] )")
	case "lang::Object":
		return "( " + e(w.one("A", "B", "I", "int [ ]", "A [ ]", "lang::String")) + " as lang::Object )"
	}
	return w.leaf(t)
}

func (w *writer) intExpr(e func(string) string) string {
	switch w.Intn(16) {
	case 0, 1, 2:
		return "( " + e("int") + " " + w.one("+", "-", "*", "/", "%", "&", "|", "^", "<<", ">>", ">>>") + " " + e("int") + " )"
	case 3:
		return "( " + e("int") + " " + w.one("==", "!=", "<", "<=", ">", ">=") + " " + e("int") + " )"
	case 4:
		return "( " + e("long") + " " + w.one("==", "!=", "<", "<=", ">", ">=") + " " + e("long") + " )"
	case 5:
		return "( " + e("A") + " " + w.one("==", "!=") + " " + e(w.one("A", "B", "lang::Object")) + " )"
	case 6:
		return "( " + e("int") + " " + w.one("&&", "||") + " " + e("int") + " )"
	case 7:
		return w.one("( ! "+e("int")+" )", "( - "+e("int")+" )", "int ( "+e("long")+" )")
	case 8:
		return "len ( " + e(w.one("int [ ]", "A [ ]")) + " )"
	case 9:
		return e("int [ ]") + " [ " + e("int") + " ]"
	case 10:
		return w.one(e("A")+" . x", "A . s", "B . t", e("A")+" . hid ( )")
	case 11:
		return e("A") + " . get ( " + e("int") + " )"
	case 12:
		return "( " + e("lang::Object") + " is " + w.one("A", "B", "I", "int [ ]", "A [ ]", "lang::Object [ ]", "lang::String") + " )"
	case 13:
		return w.one(e("lang::String")+" . length ( )", e("lang::String")+" . at ( "+e("int")+" )")
	case 14:
		return e("I") + " . " + w.one("im", "id") + " ( " + e("int") + " )"
	}
	if w.methods == 0 {
		return "A . st ( " + e("int") + " )"
	}
	return "M . f" + strconv.Itoa(w.Intn(w.methods)) + " ( " + e("int") + " , " + e("A") + " )"
}

func (w *writer) leaf(t string) string {
	if w.Intn(3) > 0 {
		if t == "A" {
			if s, ok := w.local("A", "B"); ok {
				return "( " + s + " as A )"
			}
		}
		if s, ok := w.local(t); ok {
			return s
		}
	}
	switch t {
	case "int":
		return w.one("0", "1", "2", "3", "7", "200", "100000", "2147483647")
	case "long":
		return w.one("0L", "1L", "5L", "9223372036854775807L")
	case "lang::String":
		return w.one(`"ab"`, `"x"`, `""`, "( null as lang::String )")
	case "A":
		if !w.static && w.Intn(2) == 0 {
			return "( this as A )"
		}
		return w.one("new A ( 3 )", "( new B ( ) as A )", "( null as A )", "A . made")
	case "B", "I":
		return w.one("( new B ( ) as "+t+" )", "( null as "+t+" )")
	case "int [ ]":
		return w.one("new int [ 3 ]", "new int [ 0 ]", "( null as int [ ] )")
	case "A [ ]":
		return w.one("new A [ 2 ]", "( new B [ 1 ] as A [ ] )", "( null as A [ ] )")
	}
	return w.one(`( "s" as lang::Object )`, "( new A ( 1 ) as lang::Object )", "( null as lang::Object )")
}

func (w *writer) block(d, n int) (string, bool) {
	from := len(w.locals)
	var b strings.Builder
	ends := false
	for range w.Intn(n + 1) {
		var s string
		s, ends = w.stmt(d)
		b.WriteString(s + " ")
		if ends {
			break
		}
	}
	w.locals = w.locals[:from]
	return "{ " + b.String() + "}", ends
}

func (w *writer) fresh(prefix string) string {
	w.next++
	return prefix + strconv.Itoa(w.next)
}

// stmt returns a statement and whether control cannot go on after it.
func (w *writer) stmt(d int) (string, bool) {
	e := func(t string) string { return w.expr(t, 1+w.Intn(2)) }
	if d > 0 {
		switch w.Intn(9) {
		case 0:
			c := e("int")
			a, x := w.block(d-1, 2)
			b, y := w.block(d-1, 2)
			return "if ( " + c + " ) " + a + " else " + b, x && y
		case 1:
			i := w.fresh("loop")
			a, _ := w.block(d-1, 2)
			return "int " + i + " = " + w.one("1", "2", "3") + " ; while ( " + i + " > 0 ) { " + i + " = " + i + " - 1 ; " + a + " }", false
		case 2:
			t := w.one("lang::Throwable", "lang::ArithmeticException", "lang::NullPointerException", "E", "lang::ClassCastException")
			a, x := w.block(d-1, 3)
			b, y := w.block(d-1, 2)
			return "try " + a + " catch ( " + t + " " + w.fresh("e") + " ) " + b, x && y
		case 3:
			c := e(w.one("A", "lang::Object"))
			a, x := w.block(d-1, 2)
			return "sync ( " + c + " ) " + a, x
		case 4:
			return w.block(d-1, 2)
		}
	}
	return w.simple(e)
}

func (w *writer) simple(e func(string) string) (string, bool) {
	switch w.Intn(12) {
	case 0, 1, 2:
		t := w.one("int", "long", "A", "B", "I", "int [ ]", "A [ ]", "lang::String", "lang::Object")
		value := e(t)
		name := w.fresh("v")
		w.locals = append(w.locals, variable{name, t})
		return t + " " + name + " = " + value + " ;", false
	case 3, 4:
		t := w.one("int", "long", "A", "B", "I", "int [ ]", "A [ ]", "lang::Object")
		if name, ok := w.local(t); ok {
			return name + " = " + e(t) + " ;", false
		}
		return "A . s = " + e("int") + " ;", false
	case 5:
		return w.one(e("A")+" . x = "+e("int"), e("A")+" . next = "+e("A"), e("A")+" . arr = "+e("int [ ]"), "A . s = "+e("int"), "B . t = "+e("int"), "A . made = "+e("A")) + " ;", false
	case 6:
		return w.one(e("int [ ]")+" [ "+e("int")+" ] = "+e("int"), e("A [ ]")+" [ "+e("int")+" ] = "+e("A")) + " ;", false
	case 7, 8, 9:
		return w.one("lang::Console . printInt ( "+e("int")+" ) ;", "lang::Console . printLong ( "+e("long")+" ) ;", "lang::Console . printString ( "+e("lang::String")+" ) ;"), false
	case 10:
		return w.one("new A ( "+e("int")+" ) ;", e("A")+" . get ( "+e("int")+" ) ;", "A . st ( "+e("int")+" ) ;"), false
	}
	if w.Intn(3) == 0 {
		return "throw " + w.one("new E ( )", "new lang::Error ( )", "null") + " ;", true
	}
	if w.result == "" {
		return "return ;", true
	}
	return "return " + e(w.result) + " ;", true
}

// body returns the body of a method that ends with a return.
func (w *writer) body(static bool, result string, params ...variable) string {
	w.static, w.result, w.locals = static, result, params
	var b strings.Builder
	for range 1 + w.Intn(4) {
		s, ends := w.stmt(2)
		b.WriteString(s + " ")
		if ends {
			return "{ " + b.String() + "}"
		}
	}
	if result != "" {
		b.WriteString("return " + w.expr(result, 2) + " ; ")
	}
	return "{ " + b.String() + "}"
}

func program(seed int64) string {
	w := &writer{Rand: rand.New(rand.NewSource(seed))}
	n := variable{"n", "int"}
	var b strings.Builder
	b.WriteString("class E extends lang::Throwable { } interface I { public abstract int im ( int n ) ; public int id ( int n ) { return n + this . im ( n ) ; } } ")
	b.WriteString("class A extends lang::Object { int x ; long y ; A next ; int [ ] arr ; static int s ; static A made ; private int h ; ")
	if w.Intn(4) == 0 {
		b.WriteString("static " + w.body(true, "") + " ")
	} else {
		b.WriteString("static { A . s = 3 ; A . made = new A ( 9 ) ; } ")
	}
	b.WriteString("new ( int n ) { this . x = n ; this . h = n + 1 ; } int get ( int n ) " + w.body(false, "int", n) + " A self ( ) { return this ; } int hid ( ) { return this . secret ( ) ; } private int secret ( ) { return this . h ; } ")
	b.WriteString("static int st ( int n ) { return n * 2 ; } } ")
	b.WriteString("class B extends A implements I { static int t ; static { B . t = 4 ; " + w.one("", "A . s = A . s + 1 ;", "B . t = B . t / A . s ;") + " } new ( ) { super ( 5 ) ; this . next = this ; } public int im ( int n ) " + w.body(false, "int", n) + " int get ( int n ) { if ( n > 3 ) { return super . get ( n ) ; } return n ; } sync A self ( ) { return this . next ; } private int secret ( ) { return 0 - 1 ; } } ")
	b.WriteString("class M extends lang::Object { ")
	for i := range 3 {
		b.WriteString("static int f" + strconv.Itoa(i) + " ( int n , A a ) " + w.body(true, "int", n, variable{"a", "A"}) + " ")
		w.methods++
	}
	w.static, w.result, w.locals = true, "", nil
	b.WriteString("public static void main ( ) { ")
	for i := range 5 {
		s, _ := w.block(3, 5)
		b.WriteString("try " + s + " catch ( lang::Throwable t" + strconv.Itoa(i) + " ) { lang::Console . printInt ( " + strconv.Itoa(i) + " ) ; } ")
	}
	s, ends := w.block(2, 3)
	b.WriteString(s)
	if !ends {
		b.WriteString(" lang::Console . printInt ( M . f0 ( 5 , new B ( ) ) ) ;")
	}
	b.WriteString(" } }")
	return b.String()
}
