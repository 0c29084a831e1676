package file

import (
	"armature/api"
	"reflect"
	"strings"
	"testing"
)

func attrs(n int) []api.Attr { return make([]api.Attr, n) }

func sample() api.File {
	return api.File{Pool: []api.Const{{Tag: 1, S: "A"}, {Tag: 7, A: 1}}, Flags: 65535, This: 2, Super: 0, Interfaces: []int{2, 9},
		Fields:     []api.Member{{Flags: 1, Name: 2, Desc: 3, Attributes: []api.Attr{{NameIndex: 7, Bytes: "xy"}}}, {}},
		Methods:    []api.Member{{Flags: 8, Name: 1, Desc: 1}},
		Attributes: []api.Attr{{NameIndex: 1, Bytes: ""}, {NameIndex: 2, Bytes: "\x00\xff"}}}
}

func TestZeroFile(t *testing.T) { // P11.1, P11.2
	want := "ARMA\x00\x01\x00\x00" + strings.Repeat("\x00", 14)
	if s, e := Encode(api.File{}); s != want || e != api.OK || EncodedSize(api.File{}) != 22 {
		t.Errorf("%q %d", s, e)
	}
	if f, e := Decode(want); e != api.OK || !reflect.DeepEqual(f, api.File{}) {
		t.Error(f, e)
	}
	if _, e := Decode(want[:21]); e != api.ErrTruncated {
		t.Error(e)
	}
}

func TestRoundTripAndFraming(t *testing.T) { // P11.1, P11.2, P11.3, P11.4
	s, e := Encode(sample())
	want := "ARMA\x00\x01\x00\x02\x01\x00\x01A\x07\x00\x01\xff\xff\x00\x02\x00\x00\x00\x02\x00\x02\x00\x09" +
		"\x00\x02\x00\x01\x00\x02\x00\x03\x00\x01\x00\x07\x00\x00\x00\x02xy\x00\x00\x00\x00\x00\x00\x00\x00" +
		"\x00\x01\x00\x08\x00\x01\x00\x01\x00\x00" + "\x00\x02\x00\x01\x00\x00\x00\x00\x00\x02\x00\x00\x00\x02\x00\xff"
	if s != want || e != api.OK || EncodedSize(sample()) != len(s) {
		t.Fatalf("%q %d", s, e)
	}
	if f, e := Decode(s); e != api.OK || !reflect.DeepEqual(f, sample()) {
		t.Error(f, e)
	}
	for i := range len(s) {
		if f, e := Decode(s[:i]); e == api.OK || !reflect.DeepEqual(f, api.File{}) || i < 6 && e != api.ErrMalformed || i >= 6 && e != api.ErrTruncated {
			t.Error(i, e)
		}
	}
	for _, more := range []string{"\x00", "xyz"} {
		if _, e := Decode(s + more); e != api.ErrTrailing {
			t.Error(e)
		}
	}
}

func TestEncodeErrors(t *testing.T) { // P11.1
	change := func(f func(*api.File)) api.File {
		x := sample()
		f(&x)
		return x
	}
	long := strings.Repeat("x", 65535)
	var big []api.Member
	for range 17 {
		big = append(big, api.Member{Attributes: []api.Attr{{Bytes: long}}})
	}
	for k, x := range []struct {
		f api.File
		e api.Errno
	}{
		{change(func(f *api.File) { f.Pool[0].Tag = 2; f.Flags = -1 }), api.ErrConstantTag},
		{change(func(f *api.File) { f.Interfaces = make([]int, 9); f.Flags = -1 }), api.ErrTooMany}, {change(func(f *api.File) { f.Interfaces = make([]int, 8) }), api.OK},
		{change(func(f *api.File) { f.Fields = make([]api.Member, 65) }), api.ErrTooMany}, {change(func(f *api.File) { f.Methods = make([]api.Member, 65) }), api.ErrTooMany}, {change(func(f *api.File) { f.Fields, f.Methods = make([]api.Member, 64), make([]api.Member, 64) }), api.OK},
		{change(func(f *api.File) { f.Attributes = attrs(17) }), api.ErrTooMany}, {change(func(f *api.File) { f.Attributes = attrs(16) }), api.OK}, {change(func(f *api.File) { f.Methods[0].Attributes = attrs(17); f.This = 1 << 20 }), api.ErrTooMany}, {change(func(f *api.File) { f.Fields[1].Attributes = attrs(17) }), api.ErrTooMany},
		{change(func(f *api.File) { f.Flags = 65536 }), api.ErrTooLarge}, {change(func(f *api.File) { f.This = -1 }), api.ErrTooLarge}, {change(func(f *api.File) { f.Super = 65536 }), api.ErrTooLarge}, {change(func(f *api.File) { f.Interfaces[1] = 65536 }), api.ErrTooLarge}, {change(func(f *api.File) { f.Fields[0].Flags = -1 }), api.ErrTooLarge}, {change(func(f *api.File) { f.Fields[0].Name = 65536 }), api.ErrTooLarge}, {change(func(f *api.File) { f.Methods[0].Desc = 65536 }), api.ErrTooLarge}, {change(func(f *api.File) { f.Attributes[0].NameIndex = -1 }), api.ErrTooLarge}, {change(func(f *api.File) { f.Fields[0].Attributes[0].NameIndex = 65536 }), api.ErrTooLarge},
		{change(func(f *api.File) { f.Attributes[0].Bytes = long }), api.OK}, {change(func(f *api.File) { f.Attributes[0].Bytes = long + "x" }), api.ErrTooLarge}, {change(func(f *api.File) { f.Methods = big[:15] }), api.OK}, {change(func(f *api.File) { f.Methods = big }), api.ErrTooLarge},
	} {
		s, e := Encode(x.f)
		if e != x.e || (s == "") != (e != api.OK) || EncodedSize(x.f) != len(s) {
			t.Errorf("case %d: %d, want %d", k, e, x.e)
		}
		if e == api.OK {
			if f, e := Decode(s); e != api.OK || !reflect.DeepEqual(f, x.f) {
				t.Error("round trip", k, e)
			}
		}
	}
}

func TestDecodeErrors(t *testing.T) { // P11.2
	h := "ARMA\x00\x01\x00\x00\x00\x00\x00\x00\x00\x00"
	for s, want := range map[string]api.Errno{
		"": api.ErrMalformed, "ARM": api.ErrMalformed, "ARMA\x00\x02\x00\x00": api.ErrMalformed, "arma\x00\x01": api.ErrMalformed, "ARMA\x00\x01": api.ErrTruncated, "ARMA\x00\x01\x00\x01\x02": api.ErrConstantTag,
		h: api.ErrTruncated, h + "\x00\x09": api.ErrTooMany, h + "\x00\x08": api.ErrTruncated, h + "\x00\x00\x00\x41": api.ErrTooMany, h + "\x00\x00\x00\x40": api.ErrTruncated, h + "\x00\x00\x00\x00\x00\x41": api.ErrTooMany, h + "\x00\x00\x00\x00\x00\x00\x00\x11": api.ErrTooMany, h + "\x00\x00\x00\x01\x00\x00\x00\x00\x00\x00\x00\x11": api.ErrTooMany,
		h + "\x00\x00\x00\x00\x00\x00\x00\x01\x00\x00\x00\x01\x00\x00": api.ErrTooLarge, h + "\x00\x00\x00\x00\x00\x00\x00\x01\x00\x00\x00\x00\x00\x01": api.ErrTruncated, h + "\x00\x00\x00\x00\x00\x00\x00\x01\x00\x00\x00\x00": api.ErrTruncated,
	} {
		if f, e := Decode(s); e != want || !reflect.DeepEqual(f, api.File{}) {
			t.Errorf("%q: %d, want %d", s, e, want)
		}
	}
	if _, e := Decode(strings.Repeat("x", 1<<20+1)); e != api.ErrTooLarge {
		t.Error(e)
	}
	if _, e := Decode(strings.Repeat("x", 1<<20)); e != api.ErrMalformed {
		t.Error(e)
	}
}
