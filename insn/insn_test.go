package insn

import (
	"armature/api"
	"reflect"
	"strings"
	"testing"
)

func ins(op, a int) api.Insn { return api.Insn{Op: op, A: a} }

func jump(op, to int) api.Insn { return api.Insn{Op: op, To: to} }

func sample() []api.Insn {
	return []api.Insn{{Op: api.Nop}, ins(api.Push, -128), ins(api.Push, 127), ins(api.Ldc, 1000), ins(api.ILoad, 31), {Op: api.IInc, A: 3, B: -5}, jump(api.IfEq, 8), jump(api.Goto, 0),
		{Op: api.TableSwitch, A: -1 << 31, To: 2, Tos: []int{0, 9, 1}}, {Op: api.LookupSwitch, To: 9, Keys: []int{-1 << 31, 0, 1<<31 - 1}, Tos: []int{3, 3, 0}}, {Op: api.LookupSwitch}, {Op: api.Return}}
}

func TestCheck(t *testing.T) { // P8.1
	for _, i := range sample() {
		if e := Check(i); e != api.OK {
			t.Error(i, e)
		}
	}
	many := make([]int, 65)
	up := func(n int) []int {
		l := make([]int, n)
		for i := range l {
			l[i] = i
		}
		return l
	}
	for k, x := range []struct {
		i api.Insn
		e api.Errno
	}{
		{ins(-1, 0), api.ErrBadOpcode}, {ins(api.NumOps, 0), api.ErrBadOpcode}, {api.Insn{Op: 250, S: "x"}, api.ErrBadOpcode},
		{ins(api.Nop, 1), api.ErrMalformed}, {api.Insn{Op: api.Nop, B: 1}, api.ErrMalformed}, {jump(api.Nop, 1), api.ErrMalformed}, {api.Insn{Op: api.Nop, S: "x"}, api.ErrMalformed}, {api.Insn{Op: api.Ldc, A: 1, Ref: api.Ref{Desc: "x"}}, api.ErrMalformed}, {api.Insn{Op: api.Push, A: 200, B: 1}, api.ErrMalformed}, {ins(api.Goto, 1), api.ErrMalformed}, {api.Insn{Op: api.Goto, Tos: []int{0}}, api.ErrMalformed}, {api.Insn{Op: api.TableSwitch, Keys: []int{0}, Tos: []int{0}}, api.ErrMalformed}, {api.Insn{Op: api.LookupSwitch, A: 1}, api.ErrMalformed}, {api.Insn{Op: api.ILoad, B: 1}, api.ErrMalformed}, {api.Insn{Op: api.Nop, Keys: []int{}, Tos: []int{}}, api.OK},
		{ins(api.Push, 128), api.ErrTooLarge}, {ins(api.Push, -129), api.ErrTooLarge}, {api.Insn{Op: api.IInc, B: 128}, api.ErrTooLarge}, {api.Insn{Op: api.IInc, A: 32, B: -129}, api.ErrTooLarge},
		{ins(api.AStore, 32), api.ErrBadLocal}, {ins(api.ILoad, -1), api.ErrBadLocal}, {ins(api.IInc, 32), api.ErrBadLocal}, {ins(api.Ldc, 0), api.ErrRange}, {ins(api.New, 1001), api.ErrRange},
		{jump(api.Goto, -1), api.ErrBadTarget}, {jump(api.IfNull, 1000), api.ErrBadTarget}, {jump(api.IfNull, 999), api.OK}, {api.Insn{Op: api.TableSwitch, Tos: []int{1000}}, api.ErrBadTarget}, {api.Insn{Op: api.LookupSwitch, Tos: []int{-1}}, api.ErrBadTarget}, {jump(api.TableSwitch, 1000), api.ErrBadTarget},
		{api.Insn{Op: api.TableSwitch}, api.ErrTooMany}, {api.Insn{Op: api.TableSwitch, Tos: many, A: 1 << 40}, api.ErrTooMany}, {api.Insn{Op: api.TableSwitch, Tos: many[:64]}, api.OK},
		{api.Insn{Op: api.TableSwitch, A: 1<<31 - 1, Tos: many[:1]}, api.OK}, {api.Insn{Op: api.TableSwitch, A: 1<<31 - 1, Tos: many[:2]}, api.ErrTooLarge}, {api.Insn{Op: api.TableSwitch, A: -1<<31 - 1, Tos: many[:2]}, api.ErrTooLarge}, {api.Insn{Op: api.TableSwitch, A: 1<<63 - 1, Tos: many[:2]}, api.ErrTooLarge},
		{api.Insn{Op: api.LookupSwitch, Keys: up(65), Tos: many}, api.ErrTooMany}, {api.Insn{Op: api.LookupSwitch, Keys: up(64), Tos: many[:64]}, api.OK}, {api.Insn{Op: api.LookupSwitch, Keys: up(2), Tos: many[:1]}, api.ErrTooMany},
		{api.Insn{Op: api.LookupSwitch, Keys: []int{2, 1, 1 << 31}, Tos: many[:3]}, api.ErrTooLarge}, {api.Insn{Op: api.LookupSwitch, Keys: []int{1, 1}, Tos: many[:2]}, api.ErrMalformed}, {api.Insn{Op: api.LookupSwitch, Keys: []int{2, 1}, Tos: many[:2]}, api.ErrMalformed},
	} {
		if e := Check(x.i); e != x.e {
			t.Errorf("case %d: %d, want %d", k, e, x.e)
		}
	}
}

func TestTargets(t *testing.T) { // P8.1
	if l := Targets(api.Insn{Op: api.Goto, To: 7, Tos: []int{1, -2}}); !reflect.DeepEqual(l, []int{7, 1, -2}) {
		t.Error(l)
	}
	if l := Targets(api.Insn{Op: api.LookupSwitch, Tos: []int{5}}); !reflect.DeepEqual(l, []int{0, 5}) {
		t.Error(l)
	}
	if l := Targets(api.Insn{Op: api.IAdd, To: 7, Tos: []int{1}}); len(l) != 0 {
		t.Error(l)
	}
	if l := Targets(ins(-1, 0)); len(l) != 0 {
		t.Error(l)
	}
}

func TestOffsets(t *testing.T) { // P8.2, P8.5, P8.7
	l := sample()
	places, e := Offsets(l)
	if e != api.OK || !reflect.DeepEqual(places, []int{0, 1, 3, 5, 8, 10, 13, 16, 19, 34, 57, 62, 63}) {
		t.Error(places, e)
	}
	for i, p := range places {
		if n, e := IndexAt(l, p); n != i || e != api.OK {
			t.Error(i, p, n, e)
		}
	}
	for _, p := range []int{-1, 2, 64, 1 << 62} {
		if n, e := IndexAt(l, p); n != 0 || e != api.ErrBadTarget {
			t.Error(p, n, e)
		}
	}
	if n, e := IndexAt([]api.Insn{ins(-1, 0)}, 0); n != 0 || e != api.ErrBadOpcode {
		t.Error(n, e)
	}
	if p, e := Offsets(nil); e != api.OK || !reflect.DeepEqual(p, []int{0}) {
		t.Error(p, e)
	}
	big := make([]api.Insn, 1001)
	if p, e := Offsets(big); len(p) != 0 || e != api.ErrTooMany {
		t.Error(e)
	}
	big[1000].Op = -1
	if _, e := Offsets(big); e != api.ErrBadOpcode {
		t.Error(e)
	}
	table := api.Insn{Op: api.TableSwitch, Tos: make([]int, 64)}
	var wide []api.Insn
	for range 145 {
		wide = append(wide, table)
	}
	for range 135 {
		wide = append(wide, api.Insn{})
	}
	if p, e := Offsets(wide); e != api.OK || p[len(p)-1] != 20000 {
		t.Error(len(p), e)
	}
	if _, e := Offsets(append(wide, api.Insn{})); e != api.ErrTooLarge {
		t.Error(e)
	}
}

func TestEncodeAndDecode(t *testing.T) { // P8.3, P8.4, P8.6
	if s, e := Encode([]api.Insn{ins(api.Push, -1), jump(api.Goto, 0)}); s != "\x02\xff\x34\x00\x00" || e != api.OK {
		t.Errorf("%q %d", s, e)
	}
	if s, e := Encode([]api.Insn{{Op: api.TableSwitch, A: 7, Tos: []int{0}}}); s != "\x35\x00\x00\x00\x00\x00\x07\x00\x01\x00\x00" || e != api.OK {
		t.Errorf("%q %d", s, e)
	}
	if s, e := Encode([]api.Insn{{}, {Op: api.LookupSwitch, To: 1, Keys: []int{-2}, Tos: []int{1}}, {Op: api.IInc, A: 2, B: -1}}); s != "\x00\x36\x00\x01\x00\x01\xff\xff\xff\xfe\x00\x01\x0a\x02\xff" || e != api.OK {
		t.Errorf("%q %d", s, e)
	}
	for _, x := range []struct {
		l []api.Insn
		e api.Errno
	}{{[]api.Insn{jump(api.Goto, 1)}, api.ErrBadTarget}, {[]api.Insn{jump(api.Goto, 1), ins(-1, 0)}, api.ErrBadOpcode}, {[]api.Insn{{Op: api.TableSwitch, Tos: []int{1}}}, api.ErrBadTarget}, {make([]api.Insn, 1001), api.ErrTooMany}} {
		if s, e := Encode(x.l); s != "" || e != x.e {
			t.Error(s, e)
		}
	}
	for _, l := range [][]api.Insn{nil, sample()} {
		s, e := Encode(l)
		if e != api.OK {
			t.Fatal(e)
		}
		m, e := Decode(s)
		if e != api.OK || len(l) > 0 && !reflect.DeepEqual(l, m) {
			t.Error(m, e)
		}
		if r, e := Encode(m); r != s || e != api.OK {
			t.Error(r, e)
		}
	}
}

func TestDecodeErrors(t *testing.T) { // P8.4
	for s, want := range map[string]api.Errno{
		"\x00": api.OK, "\x02": api.ErrTruncated, "\xfa": api.ErrBadOpcode, "\x34\x00\x01": api.ErrBadTarget, "\x34\x00": api.ErrTruncated, "\x02\x00\xfa\x02": api.ErrBadOpcode, "\x00\x0a\x01": api.ErrTruncated, "\x0a": api.ErrTruncated, "\x04": api.ErrTruncated, "\x04\x20": api.ErrBadLocal, "\x0a\x20\x00": api.ErrBadLocal, "\x03\x00\x00": api.ErrRange, "\x03\x03\xe9": api.ErrRange,
		"\x34\x00\x03": api.ErrBadTarget, "\x34\x00\x01\x04\x20": api.ErrBadTarget,
		"\x35\x00\x00\x00\x00\x00\x00\x00\x00": api.ErrTooMany, "\x35\x00\x00\x00\x00\x00\x00\x00": api.ErrTruncated, "\x35\x00\x00\x00\x00\x00\x00\xff\xff\x00\x00": api.ErrTruncated, "\x35\x00\x00\x00\x00\x00\x00\x00\x01\x00": api.ErrTruncated,
		"\x36\x00\x00\x00\x02\x00\x00\x00\x01\x00\x00\x00\x00\x00\x01\x00\x00": api.ErrMalformed, "\x36\x00\x00\x00\x01\x00\x00\x00\x01\x00\x02": api.ErrBadTarget, "\x36\x00\x00\x00\x01\x00\x00\x00\x01": api.ErrTruncated,
		strings.Repeat("\x00", 1001): api.ErrTooMany, strings.Repeat("\x00", 1001) + "\xfa": api.ErrBadOpcode, strings.Repeat("\x00", 998) + "\x34\x00\x01": api.OK, strings.Repeat("\xfa", 20001): api.ErrTooLarge, strings.Repeat("\xfa", 20000): api.ErrBadOpcode,
	} {
		if l, e := Decode(s); e != want || e != api.OK && l != nil {
			t.Errorf("%.20q: %v %d, want %d", s, l, e, want)
		}
	}
}

func FuzzDecode(f *testing.F) { // P8.6
	s, _ := Encode(sample())
	f.Add(s)
	f.Fuzz(func(t *testing.T, s string) {
		if l, e := Decode(s); e == api.OK {
			if r, e := Encode(l); r != s || e != api.OK {
				t.Error(l, e)
			}
		}
	})
}
