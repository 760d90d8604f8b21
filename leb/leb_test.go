package leb

import (
	"bytes"
	"errors"
	"math"
	"math/big"
	"testing"

	"mandrel/api"
)

// unsignedCases are numbers beside all borders at which a number's size, or a bit's place, changes.
func unsignedCases() []uint64 {
	list := []uint64{0, 1, 2, 624485, 0x0123456789abcdef, math.MaxUint64, math.MaxUint64 - 1}
	for k := range 64 {
		p := uint64(1) << k
		list = append(list, p-1, p, p+1, ^p, -p)
	}
	return list
}

func signedCases() []int64 {
	list := []int64{-123456, 624485, math.MinInt64, math.MaxInt64}
	for _, v := range unsignedCases() {
		list = append(list, int64(v), -int64(v))
	}
	return list
}

// wantErr holds an error against the number that the document names.
func wantErr(t *testing.T, what string, err error, want api.Errno) {
	t.Helper()
	var got api.Errno
	if !errors.As(err, &got) || got != want {
		t.Errorf("%s: error %v, want %d", what, err, int(want))
	}
}

// failU asks for an error with zero values beside it.
func failU(t *testing.T, b []byte, bits int, want api.Errno) {
	t.Helper()
	v, n, err := TakeU(b, bits)
	wantErr(t, "TakeU", err, want)
	if v != 0 || n != 0 {
		t.Errorf("TakeU(%x, %d): %d, %d beside an error", b, bits, v, n)
	}
}

func failS(t *testing.T, b []byte, bits int, want api.Errno) {
	t.Helper()
	v, n, err := TakeS(b, bits)
	wantErr(t, "TakeS", err, want)
	if v != 0 || n != 0 {
		t.Errorf("TakeS(%x, %d): %d, %d beside an error", b, bits, v, n)
	}
}

func wantU(t *testing.T, b []byte, bits int, want uint64, size int) {
	t.Helper()
	if v, n, err := TakeU(b, bits); v != want || n != size || err != nil {
		t.Errorf("TakeU(%x, %d): %d, %d, %v, want %d, %d", b, bits, v, n, err, want, size)
	}
}

func wantS(t *testing.T, b []byte, bits int, want int64, size int) {
	t.Helper()
	if v, n, err := TakeS(b, bits); v != want || n != size || err != nil {
		t.Errorf("TakeS(%x, %d): %d, %d, %v, want %d, %d", b, bits, v, n, err, want, size)
	}
}

// told is the number that bytes tell, by the chapter's words alone, with no bound on its bits.
func told(b []byte, signed bool) *big.Int {
	v := new(big.Int)
	for i, c := range b {
		group := big.NewInt(int64(c & 0x7f))
		v.Or(v, group.Lsh(group, uint(7*i)))
	}
	if signed && b[len(b)-1]&0x40 != 0 {
		v.Sub(v, new(big.Int).Lsh(big.NewInt(1), uint(7*len(b))))
	}
	return v
}

// inBits says whether a number can be one of so many bits.
func inBits(v *big.Int, bits int, signed bool) bool {
	low, high := new(big.Int), new(big.Int).Lsh(big.NewInt(1), uint(bits))
	if signed {
		high.Rsh(high, 1)
		low.Neg(high)
	}
	return v.Cmp(low) >= 0 && v.Cmp(high) < 0
}

func most(bits int) int { return int(math.Ceil(float64(bits) / 7)) }

// LB1.

func TestPutUExamples(t *testing.T) {
	for _, c := range []struct {
		v    uint64
		want []byte
	}{
		{0, []byte{0}},
		{1, []byte{1}},
		{63, []byte{0x3f}},
		{64, []byte{0x40}},
		{127, []byte{0x7f}},
		{128, []byte{0x80, 1}},
		{624485, []byte{0xe5, 0x8e, 0x26}},
		{1<<14 - 1, []byte{0xff, 0x7f}},
		{1 << 14, []byte{0x80, 0x80, 1}},
		{math.MaxUint32, []byte{0xff, 0xff, 0xff, 0xff, 0x0f}},
		{1 << 63, []byte{0x80, 0x80, 0x80, 0x80, 0x80, 0x80, 0x80, 0x80, 0x80, 1}},
		{math.MaxUint64, []byte{0xff, 0xff, 0xff, 0xff, 0xff, 0xff, 0xff, 0xff, 0xff, 1}},
	} {
		if got := PutU(nil, c.v); !bytes.Equal(got, c.want) {
			t.Errorf("PutU(%d): %x, want %x", c.v, got, c.want)
		}
		if got := SizeU(c.v); got != len(c.want) {
			t.Errorf("SizeU(%d): %d, want %d", c.v, got, len(c.want))
		}
	}
}

func TestPutSExamples(t *testing.T) {
	for _, c := range []struct {
		v    int64
		want []byte
	}{
		{0, []byte{0}},
		{-1, []byte{0x7f}},
		{63, []byte{0x3f}},
		{64, []byte{0xc0, 0}},
		{-64, []byte{0x40}},
		{-65, []byte{0xbf, 0x7f}},
		{127, []byte{0xff, 0}},
		{-128, []byte{0x80, 0x7f}},
		{-123456, []byte{0xc0, 0xbb, 0x78}},
		{8191, []byte{0xff, 0x3f}},
		{8192, []byte{0x80, 0xc0, 0}},
		{-8192, []byte{0x80, 0x40}},
		{math.MinInt32, []byte{0x80, 0x80, 0x80, 0x80, 0x78}},
		{math.MaxInt32, []byte{0xff, 0xff, 0xff, 0xff, 0x07}},
		{math.MinInt64, []byte{0x80, 0x80, 0x80, 0x80, 0x80, 0x80, 0x80, 0x80, 0x80, 0x7f}},
		{math.MaxInt64, []byte{0xff, 0xff, 0xff, 0xff, 0xff, 0xff, 0xff, 0xff, 0xff, 0}},
	} {
		if got := PutS(nil, c.v); !bytes.Equal(got, c.want) {
			t.Errorf("PutS(%d): %x, want %x", c.v, got, c.want)
		}
		if got := SizeS(c.v); got != len(c.want) {
			t.Errorf("SizeS(%d): %d, want %d", c.v, got, len(c.want))
		}
	}
}

// TestPutIsShortest: the bytes tell the number, only the last one ends it, and so many groups less can't hold it.
func TestPutIsShortest(t *testing.T) {
	hold := func(b []byte, size int, v *big.Int, signed bool) {
		t.Helper()
		if len(b) != size {
			t.Errorf("%v: %d bytes, size %d", v, len(b), size)
		}
		for i, c := range b {
			if (c&0x80 != 0) != (i < len(b)-1) {
				t.Errorf("%v: %x", v, b)
			}
		}
		if told(b, signed).Cmp(v) != 0 {
			t.Errorf("%v is told as %x", v, b)
		}
		if len(b) > 1 && inBits(v, 7*(len(b)-1), signed) {
			t.Errorf("%v has too many bytes: %x", v, b)
		}
	}
	for _, v := range unsignedCases() {
		hold(PutU(nil, v), SizeU(v), new(big.Int).SetUint64(v), false)
	}
	for _, v := range signedCases() {
		hold(PutS(nil, v), SizeS(v), big.NewInt(v), true)
	}
}

// TestPutLeavesWhatIsHandedIn: the number stands behind b, in memory that b's spare room has no part in.
func TestPutLeavesWhatIsHandedIn(t *testing.T) {
	puts := map[string]func(b []byte) []byte{
		"PutU": func(b []byte) []byte { return PutU(b, 624485) },
		"PutS": func(b []byte) []byte { return PutS(b, -123456) },
	}
	numbers := map[string][]byte{"PutU": {0xe5, 0x8e, 0x26}, "PutS": {0xc0, 0xbb, 0x78}}
	for name, put := range puts {
		for _, length := range []int{0, 1, 5, 32} {
			room := bytes.Repeat([]byte{0xaa}, 32)
			got := put(room[:length])
			if want := append(bytes.Repeat([]byte{0xaa}, length), numbers[name]...); !bytes.Equal(got, want) {
				t.Errorf("%s behind %d bytes: %x", name, length, got)
			}
			got = got[:cap(got)]
			for i := range got {
				got[i] = 0x55
			}
			if !bytes.Equal(room, bytes.Repeat([]byte{0xaa}, 32)) {
				t.Errorf("%s behind %d bytes shares memory with them: %x", name, length, room)
			}
		}
	}
}

// LB2.

func TestTakeExamples(t *testing.T) {
	wantU(t, []byte{0xe5, 0x8e, 0x26}, 32, 624485, 3)
	wantS(t, []byte{0xc0, 0xbb, 0x78}, 32, -123456, 3)
	wantU(t, []byte{0x80, 0}, 32, 0, 2)
	wantS(t, []byte{0x80, 0}, 32, 0, 2)
	wantS(t, []byte{0xff, 0x7f}, 32, -1, 2)
	wantS(t, []byte{0xff, 0xff, 0xff, 0xff, 0x7f}, 32, -1, 5)
	wantS(t, []byte{0x40}, 7, -64, 1)
	wantU(t, []byte{0x40}, 7, 64, 1)
	wantU(t, []byte{1}, 1, 1, 1)
	wantS(t, []byte{0x7f}, 1, -1, 1)
	wantS(t, []byte{0}, 1, 0, 1)
	failS(t, []byte{1}, 1, api.ErrMalformed)
	failU(t, []byte{2}, 1, api.ErrMalformed)
}

// TestTakeStopsAtTheLastByte: what follows a number is nothing to it.
func TestTakeStopsAtTheLastByte(t *testing.T) {
	wantU(t, []byte{0x05, 0xff, 0xff}, 8, 5, 1)
	wantS(t, []byte{0x7b, 0xff, 0xff}, 8, -5, 1)
	wantU(t, []byte{0x85, 0x01, 0x80}, 8, 133, 2)
	wantS(t, []byte{0xfb, 0x7e, 0x80}, 9, -133, 2)
}

func TestTakeWrongBits(t *testing.T) {
	for _, bits := range []int{0, -1, -7, 65, 70, 128, math.MaxInt, math.MinInt} {
		for _, b := range [][]byte{nil, {}, {0}, {0x80}, bytes.Repeat([]byte{0x80}, 12)} {
			failU(t, b, bits, api.ErrArg)
			failS(t, b, bits, api.ErrArg)
		}
	}
}

// TestTakeWithoutLastByte: fewer bytes than may be are an early end, as many or more are malformed.
func TestTakeWithoutLastByte(t *testing.T) {
	for bits := 1; bits <= 64; bits++ {
		failU(t, nil, bits, api.ErrEnd)
		failS(t, nil, bits, api.ErrEnd)
		for _, c := range []byte{0x80, 0xff, 0xc1} {
			for length := range 14 {
				want := api.ErrEnd
				if length >= most(bits) {
					want = api.ErrMalformed
				}
				b := bytes.Repeat([]byte{c}, length)
				failU(t, b, bits, want)
				failS(t, b, bits, want)
				if length >= most(bits) {
					failU(t, append(b, 0), bits, api.ErrMalformed)
					failS(t, append(b, 0), bits, api.ErrMalformed)
				}
			}
		}
	}
}

// holdTake asks for the number that the bytes tell just if it is one of so many bits.
func holdTake(t *testing.T, b []byte, bits int) {
	t.Helper()
	if v := told(b, false); inBits(v, bits, false) {
		wantU(t, b, bits, v.Uint64(), len(b))
	} else {
		failU(t, b, bits, api.ErrMalformed)
	}
	if v := told(b, true); inBits(v, bits, true) {
		wantS(t, b, bits, v.Int64(), len(b))
	} else {
		failS(t, b, bits, api.ErrMalformed)
	}
}

// TestTakeAllLastBytes: every last byte, behind as many others as there may be, for all numbers of bits.
func TestTakeAllLastBytes(t *testing.T) {
	for bits := 1; bits <= 64; bits++ {
		for length := 1; length <= most(bits); length++ {
			for _, c := range []byte{0x80, 0xff, 0xa5, 0xda} {
				b := bytes.Repeat([]byte{c}, length)
				for last := range 128 {
					b[length-1] = byte(last)
					holdTake(t, b, bits)
				}
			}
		}
	}
}

// TestTakeEdgesOfBits: the least and the greatest number of so many bits are taken, those beyond are not.
func TestTakeEdgesOfBits(t *testing.T) {
	for bits := 1; bits < 64; bits++ {
		high := uint64(1)<<bits - 1
		wantU(t, PutU(nil, high), bits, high, SizeU(high))
		failU(t, PutU(nil, high+1), bits, api.ErrMalformed)
		low := int64(-1) << (bits - 1)
		wantS(t, PutS(nil, low), bits, low, SizeS(low))
		wantS(t, PutS(nil, ^low), bits, ^low, SizeS(^low))
		failS(t, PutS(nil, low-1), bits, api.ErrMalformed)
		failS(t, PutS(nil, ^low+1), bits, api.ErrMalformed)
	}
	nine := bytes.Repeat([]byte{0xff}, 9)
	wantU(t, append(nine[:9:9], 1), 64, math.MaxUint64, 10)
	failU(t, append(nine[:9:9], 2), 64, api.ErrMalformed)
	failU(t, append(nine[:9:9], 0x41), 64, api.ErrMalformed)
	wantS(t, append(nine[:9:9], 0), 64, math.MaxInt64, 10)
	wantS(t, append(nine[:9:9], 0x7f), 64, -1, 10)
	failS(t, append(nine[:9:9], 1), 64, api.ErrMalformed)
	failS(t, append(nine[:9:9], 0x7e), 64, api.ErrMalformed)
}

// pad tells the same number in more bytes.
func pad(b []byte, length int, fill byte) []byte {
	out := bytes.Clone(b)
	for len(out) < length {
		out[len(out)-1] |= 0x80
		out = append(out, fill)
	}
	return out
}

// TestTakeMoreBytesThanNeeded: a number may be told in as many bytes as its bits allow, and in no more.
func TestTakeMoreBytesThanNeeded(t *testing.T) {
	for bits := 1; bits <= 64; bits++ {
		limit := most(bits)
		for length := 1; length <= limit+1; length++ {
			if length <= limit {
				wantU(t, pad([]byte{1}, length, 0), bits, 1, length)
				wantS(t, pad([]byte{0x7f}, length, 0x7f), bits, -1, length)
				wantS(t, pad([]byte{0}, length, 0), bits, 0, length)
			} else {
				failU(t, pad([]byte{1}, length, 0), bits, api.ErrMalformed)
				failS(t, pad([]byte{0x7f}, length, 0x7f), bits, api.ErrMalformed)
				failS(t, pad([]byte{0}, length, 0), bits, api.ErrMalformed)
			}
		}
	}
}

func TestTakeLeavesWhatIsHandedIn(t *testing.T) {
	for _, b := range [][]byte{{0xe5, 0x8e, 0x26}, {0x80}, bytes.Repeat([]byte{0xff}, 11), {0xff, 0x7f, 1}} {
		was := bytes.Clone(b)
		for _, bits := range []int{0, 8, 32, 64} {
			TakeU(b, bits)
			TakeS(b, bits)
		}
		if !bytes.Equal(b, was) {
			t.Errorf("%x became %x", was, b)
		}
	}
}

// LB3.

func TestTakeOfPut(t *testing.T) {
	tail := []byte{0x80, 0xff, 0x00}
	for _, v := range unsignedCases() {
		b := PutU(nil, v)
		wantU(t, b, 64, v, SizeU(v))
		wantU(t, append(b, tail...), 64, v, SizeU(v))
		for cut := range len(b) {
			failU(t, b[:cut], 64, api.ErrEnd)
		}
		for bits := 1; bits < 64; bits++ {
			if v>>bits == 0 {
				wantU(t, b, bits, v, SizeU(v))
			} else {
				failU(t, b, bits, api.ErrMalformed)
			}
		}
	}
	for _, v := range signedCases() {
		b := PutS(nil, v)
		wantS(t, b, 64, v, SizeS(v))
		wantS(t, append(b, tail...), 64, v, SizeS(v))
		for cut := range len(b) {
			failS(t, b[:cut], 64, api.ErrEnd)
		}
		for bits := 1; bits < 64; bits++ {
			if side := v >> (bits - 1); side == 0 || side == -1 {
				wantS(t, b, bits, v, SizeS(v))
			} else {
				failS(t, b, bits, api.ErrMalformed)
			}
		}
	}
}

func TestTakeOfPutSmallNumbers(t *testing.T) {
	for v := int64(-40000); v <= 40000; v++ {
		wantS(t, PutS(nil, v), 64, v, SizeS(v))
		if v >= 0 {
			wantU(t, PutU(nil, uint64(v)), 64, uint64(v), SizeU(uint64(v)))
		}
	}
}
