// Package parts takes parts off bytes, one after another, and tells the first one that is wrong: what all layers that read bytes have in common.
package parts

import (
	"mandrel/api"
	"mandrel/leb"
)

const numberBits = 32

// Reader stays at the first part that is wrong, and takes none any more: each part is 0 from then on, so that whoever reads need not ask for an error behind each.
type Reader struct {
	Bytes []byte // up to the end of what may be read
	At    int    // where the next part begins, or the wrong one
	Err   error
}

// Byte takes a part of one byte, if it is there and judge has nothing against it.
func (r *Reader) Byte(judge func(c byte) error) byte {
	if r.Err == nil && r.At == len(r.Bytes) {
		r.Err = api.ErrEnd
	}
	if r.Err != nil {
		return 0
	}
	c := r.Bytes[r.At]
	if r.Err = judge(c); r.Err != nil {
		return 0
	}
	r.At++
	return c
}

// Number takes a number without a sign, if judge has nothing against it, which sees the bytes that are left behind it as well.
func (r *Reader) Number(judge func(v uint64, left []byte) error) uint64 {
	if r.Err != nil {
		return 0
	}
	left := r.Bytes[r.At:]
	v, n, err := leb.TakeU(left, numberBits)
	if err == nil {
		err = judge(v, left[n:])
	}
	if r.Err = err; err != nil {
		return 0
	}
	r.At += n
	return v
}

// Index takes a number that may be any of 32 bits.
func (r *Reader) Index() uint32 {
	return uint32(r.Number(func(uint64, []byte) error { return nil }))
}

// Signed takes a number with a sign, of so many bits.
func (r *Reader) Signed(bits int) int64 {
	if r.Err != nil {
		return 0
	}
	v, n, err := leb.TakeS(r.Bytes[r.At:], bits)
	// Beside an error both are 0.
	r.At += n
	r.Err = err
	return v
}
