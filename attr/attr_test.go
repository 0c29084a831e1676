package attr

import (
	"armature/api"
	"reflect"
	"testing"
)

func testPool() []api.Const {
	return []api.Const{{Tag: 1, S: "A"}, {Tag: 7, A: 1}, {Tag: 1, S: "LA;"}, {Tag: 1, S: "[I"}}
}

func sample() api.Code {
	return api.Code{Stack: 3, Locals: 2,
		Insns:     []api.Insn{{Op: api.New, A: 2}, {Op: api.Pop}, {Op: api.Goto, To: 1}, {Op: api.Return}},
		Handlers:  []api.Handler{{From: 0, To: 4, Target: 1, Class: 2}, {From: 1, To: 2, Target: 3}},
		StackMaps: []api.StackMap{{Index: 1, Frame: api.Frame{Uninit: true, Locals: []api.VType{{Kind: 6, PoolIndex: 3}, {}}, Stack: []api.VType{{Kind: 5, NewIndex: 0, PoolIndex: 3}, {Kind: 4, PoolIndex: 4}, {Kind: 1}}}}, {Index: 3}},
		Lines:     []api.LineEntry{{Index: 0, Line: 7}, {Index: 2, Line: 65535}},
	}
}

const encoded = "\x00\x03\x00\x02\x00\x00\x00\x08" + "\x43\x00\x02\x0b\x34\x00\x03\x3a" +
	"\x00\x02\x00\x00\x00\x08\x00\x03\x00\x02\x00\x03\x00\x04\x00\x07\x00\x00" +
	"\x00\x02\x00\x03\x01\x02\x06\x00\x03\x00\x03\x05\x00\x00\x00\x03\x04\x00\x04\x01" + "\x00\x07\x00\x00\x00" +
	"\x00\x02\x00\x00\x00\x07\x00\x04\xff\xff"

func TestEncodeCode(t *testing.T) { // P10.1, P10.5
	s, e := EncodeCode(testPool(), sample())
	if e != api.OK || s != encoded {
		t.Fatalf("%q %d", s, e)
	}
	c, e := DecodeCode(testPool(), s)
	if e != api.OK || !reflect.DeepEqual(c, sample()) {
		t.Error(c, e)
	}
	if s, e := EncodeCode(nil, api.Code{Stack: 1, Insns: []api.Insn{{}, {Op: api.Return}}}); s != "\x00\x01\x00\x00\x00\x00\x00\x02\x00\x3a\x00\x00\x00\x00\x00\x00" || e != api.OK {
		t.Errorf("%q %d", s, e)
	}
	if s, e := EncodeCode(nil, sample()); s != "" || e != api.ErrRange {
		t.Error(s, e)
	}
	if s, e := EncodeCode(nil, api.Code{}); s != "" || e != api.ErrTooMany {
		t.Error(s, e)
	}
}

func TestDecodeCodeErrors(t *testing.T) { // P10.2, P10.5
	p := testPool()
	change := func(at int, b byte) string { return encoded[:at] + string([]byte{b}) + encoded[at+1:] }
	for i := range len(encoded) {
		if c, e := DecodeCode(p, encoded[:i]); e != api.ErrTruncated || c.Insns != nil {
			t.Error(i, e)
		}
	}
	for k, x := range []struct {
		s string
		e api.Errno
	}{
		{encoded + "x", api.ErrTrailing}, {change(8, 250), api.ErrBadOpcode}, {change(8, 250)[:40], api.ErrTruncated}, {change(19, 1), api.ErrBadHandler}, {change(21, 9), api.ErrBadHandler}, {change(21, 2), api.ErrBadHandler}, {change(23, 8), api.ErrBadHandler}, {change(19, 8), api.ErrBadHandler},
		{change(37, 1), api.ErrStackMap}, {change(37, 8), api.ErrStackMap}, {change(38, 2), api.ErrStackMap}, {change(46, 1), api.ErrStackMap}, {change(62, 1), api.ErrBadArgument}, {change(62, 8), api.ErrBadArgument}, {change(62, 1) + "x", api.ErrBadArgument}, {change(62, 3) + "x", api.ErrTrailing}, {change(1, 33) + "x", api.ErrTrailing}, {change(1, 33), api.ErrBadArgument}, {change(53, 7), api.ErrStackMap}, {change(62, 4), api.ErrBadArgument}, {"\x00\x00\x00\x00\xff\xff\xff\xff", api.ErrTruncated},
	} {
		if c, e := DecodeCode(p, x.s); e != x.e || c.Insns != nil {
			t.Errorf("case %d: %d, want %d", k, e, x.e)
		}
	}
	if _, e := DecodeCode(nil, encoded); e != api.ErrRange {
		t.Error(e)
	}
}

func TestIndexes(t *testing.T) { // P10.3, P10.4, P10.5
	if s, e := EncodeIndexes([]int{3}); s != "\x00\x01\x00\x03" || e != api.OK {
		t.Errorf("%q %d", s, e)
	}
	for _, x := range []struct {
		l []int
		e api.Errno
	}{{make([]int, 17), api.ErrTooMany}, {[]int{1, 0}, api.ErrRange}, {[]int{1001}, api.ErrRange}, {[]int{-1}, api.ErrRange}} {
		if s, e := EncodeIndexes(x.l); s != "" || e != x.e {
			t.Error(x, s, e)
		}
	}
	long := []int{1, 1000, 5, 4, 5, 6, 7, 8, 9, 10, 11, 12, 13, 14, 15, 16}
	for _, l := range [][]int{nil, {1}, long} {
		s, e := EncodeIndexes(l)
		if e != api.OK {
			t.Fatal(e)
		}
		m, e := DecodeIndexes(s)
		if e != api.OK || len(m) != len(l) || len(l) > 0 && !reflect.DeepEqual(l, m) {
			t.Error(l, m, e)
		}
		for i := range len(s) {
			if m, e := DecodeIndexes(s[:i]); m != nil || e != api.ErrTruncated {
				t.Error(i, m, e)
			}
		}
		if m, e := DecodeIndexes(s + "\x00"); m != nil || e != api.ErrTrailing {
			t.Error(m, e)
		}
	}
	for s, want := range map[string]api.Errno{"\x00\x01\x00\x00": api.ErrRange, "\x00\x01\x03\xe9": api.ErrRange, "\x00\x12": api.ErrTruncated, "\x00\x01\x00\x00x": api.ErrTrailing} {
		if m, e := DecodeIndexes(s); m != nil || e != want {
			t.Errorf("%q %v %d", s, m, e)
		}
	}
	s := "\x00\x11"
	for range 17 {
		s += "\x00\x01"
	}
	if _, e := DecodeIndexes(s); e != api.ErrTooMany {
		t.Error(e)
	}
}
