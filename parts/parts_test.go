package parts_test

import (
	"testing"

	"mandrel/api"
	"mandrel/parts"
)

func anyByte(byte) error { return nil }

func anyNumber(uint64, []byte) error { return nil }

// wantAt asks where a reader stands, and by what error.
func wantAt(t *testing.T, r parts.Reader, at int, err error) {
	t.Helper()
	if r.At != at || r.Err != err {
		t.Errorf("at %d, %v; want %d, %v", r.At, r.Err, at, err)
	}
}

// TestReader: parts of each kind, one after another, up to the end.
func TestReader(t *testing.T) {
	r := parts.Reader{Bytes: []byte{7, 0xe5, 0x8e, 0x26, 0xff, 0xff, 0xff, 0xff, 0x0f, 0xc0, 0xbb, 0x78, 0x80, 0x80, 0x80, 0x80, 0x10}}
	if c := r.Byte(anyByte); c != 7 {
		t.Errorf("Byte: %d", c)
	}
	var left int
	if v := r.Number(func(v uint64, b []byte) error { left = len(b); return nil }); v != 624485 || left != 13 {
		t.Errorf("Number: %d, with %d left", v, left)
	}
	if v := r.Index(); v != 1<<32-1 {
		t.Errorf("Index: %d", v)
	}
	if v := r.Signed(32); v != -123456 {
		t.Errorf("Signed: %d", v)
	}
	wantAt(t, r, 12, nil)
	if v := r.Signed(64); v != 1<<32 {
		t.Errorf("Signed: %d", v)
	}
	wantAt(t, r, 17, nil)
	if c := r.Byte(anyByte); c != 0 {
		t.Errorf("Byte at the end: %d", c)
	}
	wantAt(t, r, 17, api.ErrEnd)
}

// TestReaderStays: behind a part that is wrong nothing is taken, and the first error stays.
func TestReaderStays(t *testing.T) {
	wrong := map[error]func(r *parts.Reader){
		api.ErrInvalid:     func(r *parts.Reader) { r.Byte(func(byte) error { return api.ErrInvalid }) },
		api.ErrLimit:       func(r *parts.Reader) { r.Number(func(uint64, []byte) error { return api.ErrLimit }) },
		api.ErrMalformed:   func(r *parts.Reader) { r.Bytes = []byte{1, 0x80, 0x80, 0x80, 0x80, 0x80}; r.Index() },
		api.ErrEnd:         func(r *parts.Reader) { r.Bytes = []byte{1, 0x80}; r.Number(anyNumber) },
		api.ErrArg:         func(r *parts.Reader) { r.Signed(65) },
		api.ErrUnsupported: func(r *parts.Reader) { r.Err = api.ErrUnsupported },
	}
	for err, do := range wrong {
		r := parts.Reader{Bytes: []byte{1, 2, 3, 4}, At: 1}
		do(&r)
		wantAt(t, r, 1, err)
		if r.Byte(anyByte) != 0 || r.Number(anyNumber) != 0 || r.Index() != 0 || r.Signed(32) != 0 {
			t.Errorf("%v: a part was taken behind it", err)
		}
		wantAt(t, r, 1, err)
	}
}
