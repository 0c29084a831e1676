package lex

import (
	"armature/api"
	"reflect"
	"strings"
	"testing"
)

type tok = api.Token

func ident(s string) tok { return tok{Kind: api.TName, S: s} }
func key(s string) tok   { return tok{Kind: api.TKeyword, S: s} }
func op(s string) tok    { return tok{Kind: api.TOperator, S: s} }
func str(s string) tok   { return tok{Kind: api.TString, S: s} }
func num(n int) tok      { return tok{Kind: api.TInt, N: n} }
func long(n int) tok     { return tok{Kind: api.TLong, N: n} }

func TestTokens(t *testing.T) { // P53.1, P53.2
	l, at, e := Tokenize("lang::Console . say ( 1L ) // x")
	want := []tok{ident("lang/Console"), op("."), ident("say"), op("("), long(1), op(")")}
	for i, n := range []int{0, 14, 16, 20, 22, 25} {
		want[i].At = n
	}
	if e != api.OK || at != 0 || !reflect.DeepEqual(l, want) {
		t.Error(l, at, e)
	}
	for s, want := range map[string][]tok{
		"": nil, " \t\r\n": nil, "//": nil, "// a": nil, "// a\n//b\nx//": {ident("x")}, "/ /": {op("/"), op("/")}, "a/b": {ident("a"), op("/"), ident("b")}, "_$9 $": {ident("_$9"), ident("$")}, "int": {key("int")}, "ints": {ident("ints")}, "int::x": {ident("int/x")}, "a::b::C": {ident("a/b/C")}, "a ::b"[:1]: {ident("a")},
		"0": {num(0)}, "0L": {long(0)}, "2147483647": {num(1<<31 - 1)}, "9223372036854775807L": {long(1<<63 - 1)}, "2147483648L": {long(1 << 31)}, "12ab": {num(12), ident("ab")}, "1Lx": {long(1), ident("x")}, "1 L": {num(1), ident("L")}, "-1": {op("-"), num(1)},
		`""`: {str("")}, `"a b"`: {str("a b")}, `"\"\\\n\x00\xff\x41"`: {str("\"\\\n\x00\xffA")}, `"//"`: {str("//")}, `"a""b"`: {str("a"), str("b")},
		">>>>": {op(">>>"), op(">")}, "<<=": {op("<<"), op("=")}, "===": {op("=="), op("=")}, "!!=": {op("!"), op("!=")}, "&&&": {op("&&"), op("&")}, "|||": {op("||"), op("|")}, ">=<=": {op(">="), op("<=")}, "{}()[];,.=+-*/%&|^!<>": {op("{"), op("}"), op("("), op(")"), op("["), op("]"), op(";"), op(","), op("."), op("="), op("+"), op("-"), op("*"), op("/"), op("%"), op("&"), op("|"), op("^"), op("!"), op("<"), op(">")},
		strings.Repeat("a", 64): {ident(strings.Repeat("a", 64))}, `"` + strings.Repeat("x", 1024) + `"`: {str(strings.Repeat("x", 1024))},
	} {
		l, at, e := Tokenize(s)
		for i := range l {
			if i > 0 && l[i].At <= l[i-1].At {
				t.Error("order", s)
			}
			l[i].At = 0
		}
		if e != api.OK || at != 0 || len(l) != len(want) || len(l) > 0 && !reflect.DeepEqual(l, want) {
			t.Errorf("%q: %v %d %d", s, l, at, e)
		}
	}
}

func TestErrors(t *testing.T) { // P53.2
	for s, want := range map[string]int{
		"@": 0, " #": 1, "a:b": 1, "a::": 1, "a::1": 1, "a:: b": 1, "01": 0, "x 00": 2, "01L": 0, "2147483648": 0, "9223372036854775808L": 0, "99999999999999999999999L": 0, `"`: 0, `"a`: 0, `x "\`: 2, `"\q"`: 0, `"\x4"`: 0, `"\x4G"`: 0, `"\xAA"`: 0, "\"\n\"": 0, "\"\x7f\"": 0, "\x80": 0, "?": 0, "a \x00": 2, strings.Repeat("a", 65): 0, "b " + strings.Repeat("a::", 33) + "b": 2, `"` + strings.Repeat("x", 1025) + `"`: 0, "'a'": 0, "a \\": 2,
	} {
		if l, at, e := Tokenize(s); l != nil || at != want || e != api.ErrBadToken {
			t.Errorf("%.40q: %v %d %d, want %d", s, l, at, e, want)
		}
	}
	many := strings.Repeat("; ", 5000)
	if l, at, e := Tokenize(many + "// end"); len(l) != 5000 || at != 0 || e != api.OK {
		t.Error(len(l), at, e)
	}
	for _, more := range []string{";", "@"} {
		if l, at, e := Tokenize(many + more); l != nil || at != 0 || e != api.ErrTooMany {
			t.Error(more, len(l), at, e)
		}
	}
	if l, at, e := Tokenize("@" + strings.Repeat(" ", 20000)); l != nil || at != 0 || e != api.ErrTooLarge {
		t.Error(at, e)
	}
	if _, at, e := Tokenize(strings.Repeat(" ", 19999) + "@"); at != 19999 || e != api.ErrBadToken {
		t.Error(at, e)
	}
}

func TestNames(t *testing.T) { // P53.3
	if got := strings.Join(Keywords(), " "); got != "abstract as catch class else extends final if implements int interface is len long new null private protected public return static super sync this throw try void while" {
		t.Error(got)
	}
	for s, want := range map[string]bool{"A": true, "a/B": true, "a/Z9": true, "a": false, "A/b": false, "_A": false, "": false, "A/": false, "$A": false, "1A": false} {
		if IsClassName(s) != want {
			t.Error(s)
		}
	}
	l := Keywords()
	l[0] = "x"
	if Keywords()[0] != "abstract" {
		t.Error("the list is shared")
	}
}

func TestFormatToken(t *testing.T) { // P53.4, P53.5
	good := map[string]tok{"a::B": ident("a/B"), "int": key("int"), "0": num(0), "7L": long(7), `"\"\\\n\x00\xff ~"`: str("\"\\\n\x00\xff ~"), ">>>": op(">>>"), `""`: str("")}
	var all []tok
	for want, x := range good {
		x.At = -55
		if s, e := FormatToken(x); s != want || e != api.OK {
			t.Error(x, s, e)
		}
		all = append(all, x)
	}
	for _, x := range []tok{{}, {Kind: 7}, {Kind: -1, S: "x"}, ident("int"), ident(""), ident("a//b"), ident("a::b"), ident("a b"), {Kind: api.TName, S: "a", N: 1}, key("x"), key("Int"), key("a/b"), num(-1), num(1 << 31), long(-1), {Kind: api.TInt, S: "1"}, {Kind: api.TInt, N: 1, S: "x"}, {Kind: api.TString, N: 1}, str(strings.Repeat("x", 1025)), op(""), op("=>"), op("int"), op("//"), op(":"), {Kind: api.TOperator, S: ";", N: 1}, op("= "), ident(strings.Repeat("a", 65))} {
		if s, e := FormatToken(x); s != "" || e != api.ErrBadArgument {
			t.Error(x, s, e)
		}
	}
	s, e := Join(all)
	if e != api.OK {
		t.Fatal(e)
	}
	for _, text := range []string{s, "  \n" + s, s + "\n// comment"} {
		l, _, e := Tokenize(text)
		if e != api.OK || len(l) != len(all) {
			t.Fatal(l, e)
		}
		for i := range l {
			l[i].At = all[i].At
			if l[i] != all[i] {
				t.Error(l[i], all[i])
			}
		}
	}
}

func TestJoinLimits(t *testing.T) { // P53.4
	many := make([]tok, 5001)
	for i := range many {
		many[i] = op(";")
	}
	if s, e := Join(many); s != "" || e != api.ErrTooMany {
		t.Error(e)
	}
	if s, e := Join(many[:5000]); len(s) != 9999 || e != api.OK {
		t.Error(len(s), e)
	}
	if s, e := Join(nil); s != "" || e != api.OK {
		t.Error(s, e)
	}
	wide := []tok{}
	for range 20 {
		wide = append(wide, str(strings.Repeat("x", 997)))
	}
	if s, e := Join(wide); len(s) != 19999 || e != api.OK {
		t.Error(len(s), e)
	}
	wide[0] = str(strings.Repeat("x", 999))
	if s, e := Join(wide); s != "" || e != api.ErrTooLarge {
		t.Error(e)
	}
	wide[19] = op("?")
	if s, e := Join(wide); s != "" || e != api.ErrBadArgument {
		t.Error(e)
	}
}
