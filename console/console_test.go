package console

import (
	"armature/api"
	"slices"
	"strings"
	"testing"
)

func TestSplitLine(t *testing.T) { // P60.1
	for s, want := range map[string][]string{
		"": nil, " \t": nil, "a": {"a"}, " a\tb  c ": {"a", "b", "c"}, `a "b c" d`: {"a", "b c", "d"}, `"\"\\\n\x41"`: {"\"\\\nA"}, `""`: {""}, `a"b c"`: {`a"b`, `c"`}, "a\nb": {"a\nb"}, "#a b": {"#a", "b"}, `x=y"`: {`x=y"`}, `"a"` + "\t" + `"b"`: {"a", "b"}, `"//"`: {"//"},
	} {
		if l, e := SplitLine(s); e != api.OK || !slices.Equal(l, want) {
			t.Errorf("%q: %q %d", s, l, e)
		}
	}
	for _, s := range []string{`"`, `"a`, `"a"b`, `"a""b"`, `"\q"`, `"a\"`, "\"\n\"", `x "`, `"a" "`, "\"\t\"", `"` + strings.Repeat("x", 1025) + `"`, `"` + strings.Repeat("x", 30000) + `"`, `"\`} {
		if l, e := SplitLine(s); e != api.ErrBadToken || l != nil {
			t.Errorf("%.40q: %q %d", s, l, e)
		}
	}
}

func script(t *testing.T, lines ...string) string {
	t.Helper()
	s, at, e := Run(strings.Join(lines, "\n"))
	if at != 0 || e != api.OK {
		t.Fatal(lines, at, e)
	}
	return s
}

const hello = `source 0 "class M extends lang::Object { public static void main ( ) { lang::Console . printInt ( 7 ) ; } }"`

func TestExamples(t *testing.T) { // P60.2
	if got := script(t, "loader lang/x=0", "begin", "threads", "objects", "classes"); got != "1\nok\n0\n" {
		t.Errorf("%q", got)
	}
	if got := script(t, "main 0 A"); got != "error 7\n" {
		t.Errorf("%q", got)
	}
	if s, at, e := Run("memory x"); s != "" || at != 1 || e != api.ErrSyntax {
		t.Error(s, at, e)
	}
	if got := script(t, hello, "begin", "main 0 M", "run 1000", "threads", "output"); got != "ok\nok\n0\n7\ndone\n7\n" {
		t.Errorf("%q", got)
	}
}

func TestCommands(t *testing.T) { // P60.2
	for k, x := range []struct {
		lines []string
		want  string
	}{
		{nil, ""}, {[]string{"loader", "loader a=0 b=c=1 =0", "begin"}, "1 2 ok"}, {[]string{"loader a=1", "begin", "begin", "classes"}, "1 error 2 error 2 error 7"}, {[]string{"loader a=-9223372036854775808"}, "1"},
		{[]string{"source 1 x", "source -1 \"\"", "source 0 class", "source 0 \"\"", `source 0 "class A extends B { }"`, `source 0 "class A extends lang::Object { int x ; int x ; }"`, `source 0 "class A extends lang::Object { int f ( ) { } }"`, `source 0 "@"`}, "error 2 error 2 error 71 ok error 72 error 6 error 74 error 70"},
		{[]string{"memory -1", "begin", "memory 5001", "begin", "memory 5000", "begin"}, "ok error 1 ok error 1 ok ok"},
		{[]string{"pick 0", "run 0", "collect", "collect soft", "threads", "output", "check", "objects", "classes"}, strings.TrimSpace(strings.Repeat("error 7 ", 9))},
		{[]string{hello, "begin", "main 0 X", "main 1 M", "main 0 M", "main 0 M", "check", "pick 0 1 -1 0 1", "threads", "check", "run 100000", "run 100000", "threads", "output", "objects", "collect", "classes"}, "ok ok error 30 error 2 0 1 true 5 going going true 6 0 done done 7 7 0 0 lang/Object 0 linked M 0 linked lang/String 0 loaded lang/Throwable 0 loaded lang/Console 0 linked"},
		{[]string{hello, "begin", hello, "main 0 M", "begin", "loader"}, "ok ok ok 0 error 6 1"},
		{[]string{`source 0 "class M extends lang::Object { public static void main ( ) { lang::Object o = new lang::SoftReference ( new M ( ) ) ; lang::Object p = new lang::Object ( ) ; p = null ; while ( 1 ) { } } }"`, "begin", "main 0 M", "run 60", "objects", "collect", "objects", "collect soft", "objects", "check"}, "ok ok 0 60 3 1 2 1 1 true"},
		{[]string{"memory 0", `source 0 "class M extends lang::Object { public static void main ( ) { new M ( ) ; } }"`, "begin", "main 0 M", "run 99", "threads"}, "ok ok ok 0 3 thrown lang/OutOfMemoryError"},
		{[]string{`source 0 "class M extends lang::Object { public static void main ( ) { lang::Console . printString ( \"a\\nb\" ) ; } }"`, "begin", "main 0 M", "run 99", "output"}, "ok ok 0 7 a b"},
	} {
		if got := strings.Join(strings.Fields(script(t, x.lines...)), " "); got != x.want {
			t.Errorf("case %d: %q, want %q", k, got, x.want)
		}
	}
}

func TestInvalidLines(t *testing.T) { // P60.2
	for s, want := range map[string]int{
		"x": 1, "begin 1": 1, "BEGIN": 1, "memory": 1, "memory 1 2": 1, "memory 01": 1, "memory +1": 1, "memory -0": 1, "memory 9223372036854775808": 1, "loader a": 1, "loader a=": 1, "loader a=x": 1, "loader a=0=": 1, "source 0": 1, "source x \"\"": 1, "source 0 a b": 1, "main 0": 1, "main x A": 1, "main 0 A B": 1, "pick": 1, "pick 0 x": 1, "run": 1, "run 1 2": 1, "run -1": 1, "run 100001": 1, "collect hard": 1, "collect soft soft": 1, "threads 1": 1, "output 1": 1, "check 1": 1, "objects 1": 1, "classes 1": 1, "begin\n\n# x\nx": 4, "begin\nmemory \nx": 2, "begin\r": 1,
	} {
		if out, at, e := Run(s); out != "" || at != want || e != api.ErrSyntax {
			t.Errorf("%q: %q %d %d", s, out, at, e)
		}
	}
	if out, at, e := Run("begin\n memory \"1"); out != "" || at != 2 || e != api.ErrBadToken {
		t.Error(out, at, e)
	}
	if out, at, e := Run("x\nmemory \"1"); out != "" || at != 1 || e != api.ErrSyntax {
		t.Error(out, at, e)
	}
	if _, at, e := Run("x" + strings.Repeat(" ", 20000)); at != 0 || e != api.ErrTooLarge {
		t.Error(at, e)
	}
	if _, at, e := Run("x" + strings.Repeat(" ", 19999)); at != 1 || e != api.ErrSyntax {
		t.Error(at, e)
	}
}

func TestPrefixAndComments(t *testing.T) { // P60.3, P60.4
	lines := []string{hello, "loader", "begin", "main 0 M", "check", "pick 0", "run 3", "threads", "collect", "run 100", "output", "memory 5", "begin", "classes", "main 0 M", "run 9"}
	whole := script(t, lines...)
	var commented []string
	for i := range lines {
		part := script(t, lines[:i]...)
		if !strings.HasPrefix(whole, part) {
			t.Error(i, part)
		}
		commented = append(commented, "", " \t# \"", "#x", " \t"+lines[i]+" \t")
	}
	if got := script(t, commented...); got != whole {
		t.Error(got)
	}
}
