package pool

import (
	"armature/api"
	"reflect"
	"strings"
	"testing"
)

func utf(s string) api.Const            { return api.Const{Tag: api.TagUTF8, S: s} }
func two(tag, a, b int) api.Const       { return api.Const{Tag: tag, A: a, B: b} }
func pooled(l ...api.Const) []api.Const { return l }

func sample() []api.Const {
	return pooled(utf("A"), two(api.TagClass, 1, 0), utf("f"), utf("()V"), two(api.TagNameAndType, 3, 4), two(api.TagMethod, 2, 5), two(api.TagString, 3, 0), utf("I"), two(api.TagNameAndType, 3, 8), two(api.TagField, 2, 9), two(api.TagInterfaceMethod, 2, 5), api.Const{Tag: api.TagInt, N: -1 << 31}, api.Const{Tag: api.TagLong, N: 1 << 62})
}

func TestReaders(t *testing.T) { // P5.1
	p := sample()
	if i, e := Check(p); i != 0 || e != api.OK {
		t.Fatal(i, e)
	}
	for i, want := range map[int]api.Errno{0: api.ErrRange, -1: api.ErrRange, 14: api.ErrRange, 1: api.OK, 13: api.OK} {
		if c, e := At(p, i); e != want || e != api.OK && c != (api.Const{}) {
			t.Error(i, c, e)
		}
	}
	text := func(f func([]api.Const, int) (string, api.Errno), p []api.Const, i int, s string, want api.Errno) {
		t.Helper()
		if r, e := f(p, i); r != s || e != want {
			t.Error(i, r, e)
		}
	}
	text(UTF8, p, 1, "A", api.OK)
	text(UTF8, p, 2, "", api.ErrConstantTag)
	text(UTF8, p, 99, "", api.ErrRange)
	text(ClassName, p, 2, "A", api.OK)
	text(ClassName, p, 7, "", api.ErrConstantTag)
	text(ClassName, pooled(two(api.TagClass, 7, 0)), 1, "", api.ErrRange)
	text(ClassName, pooled(two(api.TagClass, 1, 0)), 1, "", api.ErrConstantTag)
	text(StringValue, p, 7, "f", api.OK)
	text(StringValue, p, 2, "", api.ErrConstantTag)
	if n, d, e := NameAndType(p, 5); n != "f" || d != "()V" || e != api.OK {
		t.Error(n, d, e)
	}
	for _, x := range []struct {
		p []api.Const
		i int
		e api.Errno
	}{{p, 0, api.ErrRange}, {p, 4, api.ErrConstantTag}, {pooled(utf("a"), two(api.TagNameAndType, 1, 9)), 2, api.ErrRange}, {pooled(utf("a"), two(api.TagNameAndType, 9, 2)), 2, api.ErrRange}, {pooled(utf("a"), two(api.TagNameAndType, 2, 9)), 2, api.ErrConstantTag}} {
		if n, d, e := NameAndType(x.p, x.i); n != "" || d != "" || e != x.e {
			t.Error(x, n, d, e)
		}
	}
	if r, e := MemberRef(p, 6, api.TagMethod); r != (api.Ref{Class: "A", Name: "f", Desc: "()V"}) || e != api.OK {
		t.Error(r, e)
	}
	for _, x := range []struct {
		p      []api.Const
		i, tag int
		e      api.Errno
	}{{p, 0, 99, api.ErrRange}, {p, 6, api.TagField, api.ErrConstantTag}, {p, 2, api.TagClass, api.ErrConstantTag}, {pooled(two(api.TagField, 0, 0)), 1, api.TagField, api.ErrRange}, {pooled(utf("A"), two(api.TagClass, 1, 0), two(api.TagField, 2, 1)), 3, api.TagField, api.ErrConstantTag}} {
		if r, e := MemberRef(x.p, x.i, x.tag); r != (api.Ref{}) || e != x.e {
			t.Error(x, r, e)
		}
	}
}

func TestCheckErrors(t *testing.T) { // P5.2
	base := func(l ...api.Const) []api.Const {
		return append(pooled(utf("A"), two(api.TagClass, 1, 0), utf("f"), utf("()V"), utf("I"), utf("<init>"), utf("<clinit>"), utf("()I"), utf("1x"), utf("V"), utf("[V")), l...)
	}
	nat := func(a, b int) api.Const { return two(api.TagNameAndType, a, b) }
	for k, x := range []struct {
		p []api.Const
		i int
		e api.Errno
	}{
		{base(api.Const{Tag: 2}), 12, api.ErrConstantTag}, {base(api.Const{}), 12, api.ErrConstantTag}, {base(api.Const{Tag: -1, S: "x"}), 12, api.ErrConstantTag},
		{base(api.Const{Tag: 1, N: 1}), 12, api.ErrMalformed}, {base(api.Const{Tag: 3, A: 1, N: 1 << 40}), 12, api.ErrMalformed}, {base(api.Const{Tag: 7, A: 99, B: 1}), 12, api.ErrMalformed}, {base(api.Const{Tag: 12, A: 1, B: 1, S: "x"}), 12, api.ErrMalformed}, {base(api.Const{Tag: 5, S: "x"}), 12, api.ErrMalformed},
		{base(utf(strings.Repeat("x", 1025))), 12, api.ErrTooLarge}, {base(utf(strings.Repeat("x", 1024))), 0, api.OK}, {base(api.Const{Tag: 3, N: 1 << 31}), 12, api.ErrTooLarge}, {base(api.Const{Tag: 3, N: -1<<31 - 1}), 12, api.ErrTooLarge},
		{base(two(7, 0, 0)), 12, api.ErrRange}, {base(two(7, 13, 0)), 12, api.ErrRange}, {base(two(7, 2, 0)), 12, api.ErrConstantTag}, {base(two(7, 9, 0)), 12, api.ErrBadDescriptor}, {base(two(7, 11, 0)), 12, api.ErrBadDescriptor}, {base(two(8, 9, 0)), 0, api.OK}, {base(two(8, 2, 0)), 12, api.ErrConstantTag},
		{base(nat(2, 99)), 12, api.ErrConstantTag}, {base(nat(3, 99)), 12, api.ErrRange}, {base(nat(9, 9)), 12, api.ErrBadName}, {base(nat(3, 9)), 12, api.ErrBadDescriptor}, {base(nat(3, 10)), 12, api.ErrBadDescriptor}, {base(nat(3, 5)), 0, api.OK}, {base(nat(7, 8)), 0, api.OK},
		{base(two(9, 13, 13), nat(3, 5)), 12, api.ErrConstantTag}, {base(two(9, 2, 3), nat(3, 5)), 12, api.ErrConstantTag}, {base(two(9, 2, 13), nat(3, 5)), 0, api.OK}, {base(two(9, 2, 13), nat(3, 4)), 12, api.ErrBadDescriptor}, {base(two(10, 2, 13), nat(3, 5)), 12, api.ErrBadDescriptor}, {base(two(11, 2, 13), nat(3, 5)), 12, api.ErrBadDescriptor}, {base(two(10, 2, 13), nat(3, 4)), 0, api.OK},
		{base(two(9, 2, 13), nat(6, 5)), 12, api.ErrBadName}, {base(two(9, 2, 13), nat(6, 4)), 12, api.ErrBadDescriptor}, {base(two(10, 2, 13), nat(7, 4)), 12, api.ErrBadName}, {base(two(11, 2, 13), nat(7, 4)), 12, api.ErrBadName}, {base(two(11, 2, 13), nat(6, 4)), 12, api.ErrBadName}, {base(two(10, 2, 13), nat(6, 4)), 0, api.OK}, {base(two(10, 2, 13), nat(6, 8)), 12, api.ErrBadName},
		{base(two(9, 2, 13), nat(3, 9)), 13, api.ErrBadDescriptor}, {base(two(9, 2, 13), nat(3, 2)), 13, api.ErrConstantTag}, {base(two(10, 2, 13), nat(3, 9)), 12, api.ErrBadDescriptor},
	} {
		if i, e := Check(x.p); i != x.i || e != x.e {
			t.Errorf("case %d: %d, %d, want %d, %d", k, i, e, x.i, x.e)
		}
	}
	many := make([]api.Const, 1000)
	for i := range many {
		many[i] = api.Const{Tag: api.TagLong, N: i}
	}
	if i, e := Check(many); i != 0 || e != api.OK {
		t.Error(i, e)
	}
	if i, e := Check(append(many, api.Const{})); i != 0 || e != api.ErrTooMany {
		t.Error(i, e)
	}
}

func TestAdd(t *testing.T) { // P5.3, P5.4
	p, i, e := AddClass(nil, "A")
	if i != 2 || e != api.OK || !reflect.DeepEqual(p, pooled(utf("A"), two(7, 1, 0))) {
		t.Fatal(p, i, e)
	}
	q, i, e := AddMemberRef(p, api.TagMethod, api.Ref{Class: "A", Name: "f", Desc: "()V"})
	if i != 6 || e != api.OK || !reflect.DeepEqual(q, sample()[:6]) {
		t.Fatal(q, i, e)
	}
	if r, i, e := AddMemberRef(q, api.TagMethod, api.Ref{Class: "A", Name: "f", Desc: "()V"}); i != 6 || e != api.OK || len(r) != 6 {
		t.Error(r, i, e)
	}
	if r, i, e := AddMemberRef(q, 77, api.Ref{Class: "A", Name: "f", Desc: "()V"}); i != 7 || e != api.OK || r[6] != two(77, 2, 5) {
		t.Error(r, i, e)
	}
	if r, i, e := AddString(q, "A"); i != 7 || e != api.OK || r[6] != two(8, 1, 0) {
		t.Error(r, i, e)
	}
	one, _, _ := AddUTF8(q, "x")
	other, _, _ := AddUTF8(q, "y")
	if one[6].S != "x" || other[6].S != "y" || !reflect.DeepEqual(q, sample()[:6]) {
		t.Error("lists share their ends", one, other)
	}
	if m, e := MemberRef(q, 6, api.TagMethod); m.Name != "f" || e != api.OK {
		t.Error(m, e)
	}
	if _, i, e := Add(pooled(utf("a"), utf("b"), utf("b")), utf("b")); i != 2 || e != api.OK {
		t.Error("first equal one", i, e)
	}
}

func TestAddLimits(t *testing.T) { // P5.3
	full := make([]api.Const, 999)
	for i := range full {
		full[i] = api.Const{Tag: api.TagLong, N: i}
	}
	for _, add := range []func([]api.Const) ([]api.Const, int, api.Errno){
		func(p []api.Const) ([]api.Const, int, api.Errno) { return AddClass(p, "A") },
		func(p []api.Const) ([]api.Const, int, api.Errno) { return AddString(p, "A") },
		func(p []api.Const) ([]api.Const, int, api.Errno) { return AddMemberRef(p, api.TagField, api.Ref{}) },
	} {
		if p, i, e := add(full); i != 0 || e != api.ErrTooMany || !reflect.DeepEqual(p, full) {
			t.Error(len(p), i, e)
		}
	}
	p, i, e := AddUTF8(full, "A")
	if i != 1000 || e != api.OK {
		t.Error(i, e)
	}
	if q, i, e := AddUTF8(p, "B"); i != 0 || e != api.ErrTooMany || len(q) != 1000 {
		t.Error(len(q), i, e)
	}
	if _, i, e := AddUTF8(append(p, utf("z")), "z"); i != 1001 || e != api.OK {
		t.Error(i, e)
	}
}

func TestReadersSucceedOnValidPools(t *testing.T) { // P5.4
	p := sample()
	for i, c := range p {
		e := api.OK
		switch c.Tag {
		case api.TagUTF8:
			_, e = UTF8(p, i+1)
		case api.TagClass:
			_, e = ClassName(p, i+1)
		case api.TagString:
			_, e = StringValue(p, i+1)
		case api.TagNameAndType:
			_, _, e = NameAndType(p, i+1)
		case api.TagField, api.TagMethod, api.TagInterfaceMethod:
			_, e = MemberRef(p, i+1, c.Tag)
		}
		if e != api.OK {
			t.Error(i, e)
		}
	}
}
