package name

import (
	"strings"
	"testing"
)

func TestIsClassName(t *testing.T) { // P3.1
	long := strings.Repeat("a", 64)
	for s, want := range map[string]bool{
		"a": true, "a/b_1/$c": true, "Z": true, "_": true, "$9": true, long: true, strings.Repeat("a/", 31) + "ab": true,
		"": false, "/": false, "a//b": false, "/a": false, "a/": false, "1a": false, "a/1": false, "a-b": false, "a.b": false, "<init>": false, "<clinit>": false, long + "a": false, "a\x80": false, "é": false, "a b": false, "a\x00": false,
	} {
		if got := IsClassName(s); got != want {
			t.Errorf("IsClassName(%q) = %v", s, got)
		}
	}
}

func TestIsMemberName(t *testing.T) { // P3.1
	long := strings.Repeat("b", 64)
	for s, want := range map[string]bool{
		"a": true, "<init>": true, "<clinit>": true, "$": true, "_9": true, long: true,
		"": false, "a/b": false, "9": false, "<x>": false, "<init>x": false, long + "b": false, "\xff": false, "@a": false, "a[": false, "a`": false, "a{": false, "a:": false,
	} {
		if got := IsMemberName(s); got != want {
			t.Errorf("IsMemberName(%q) = %v", s, got)
		}
	}
}

func TestParts(t *testing.T) { // P3.2
	for _, x := range [][3]string{{"a/b/c", "a/b", "c"}, {"c", "", "c"}, {"", "", ""}, {"/", "", ""}, {"a/", "a", ""}, {"/a", "", "a"}, {"a//b", "a/", "b"}} {
		if p, s := Package(x[0]), SimpleName(x[0]); p != x[1] || s != x[2] {
			t.Errorf("%q: %q %q", x[0], p, s)
		}
	}
	if Join("", "x") != "x" || Join("a", "") != "a/" || Join("a/b", "c") != "a/b/c" || Join("", "") != "" {
		t.Error("Join")
	}
	for _, x := range []struct {
		s, p string
		want bool
	}{{"abc", "ab", true}, {"abc", "", true}, {"", "", true}, {"ab", "abc", false}, {"abc", "b", false}, {"abc", "abc", true}} {
		if HasPrefix(x.s, x.p) != x.want {
			t.Error(x)
		}
	}
}

func TestLaws(t *testing.T) { // P3.3
	for _, s := range []string{"A", "a/B", "a/b/C_$1", "$/_"} {
		if Join(Package(s), SimpleName(s)) != s || !IsMemberName(SimpleName(s)) {
			t.Error(s)
		}
		for i := range len(s) + 1 {
			if !HasPrefix(s, s[:i]) || HasPrefix(s[:i], s[:i]+"x") {
				t.Error(s, i)
			}
		}
	}
}
