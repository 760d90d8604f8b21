// Package leb is layer 1: numbers as bytes: see shared/doc/01-leb.md.
package leb

import "mandrel/api"

// A byte is a group of seven bits, and the bit that tells that another byte follows.
const (
	groupBits = 7
	groupMask = 1<<groupBits - 1
	moreBit   = 1 << groupBits
	signBit   = moreBit >> 1
	maxBits   = 64
)

// PutU lays a number without a sign.
func PutU(b []byte, v uint64) []byte {
	out := copyWithRoom(b, SizeU(v))
	for v > groupMask {
		out = append(out, byte(v)|moreBit)
		v >>= groupBits
	}
	return append(out, byte(v))
}

// PutS lays a number with a sign.
func PutS(b []byte, v int64) []byte {
	out := copyWithRoom(b, SizeS(v))
	for !fitsSignedGroup(v) {
		out = append(out, byte(v)|moreBit)
		v >>= groupBits
	}
	return append(out, byte(v)&groupMask)
}

// TakeU takes a number without a sign, of so many bits, off bytes; how many bytes it has.
func TakeU(b []byte, bits int) (uint64, int, error) {
	n, err := countBytes(b, bits)
	if err != nil {
		return 0, 0, err
	}
	// In a byte ahead of the last that may be, more than seven bits are left, and the shift gives 0.
	if b[n-1]>>bitsLeft(n, bits) != 0 {
		return 0, 0, api.ErrMalformed
	}
	return joinGroups(b[:n]), n, nil
}

// TakeS takes a number with a sign, of so many bits, off bytes; how many bytes it has.
func TakeS(b []byte, bits int) (int64, int, error) {
	n, err := countBytes(b, bits)
	if err != nil {
		return 0, 0, err
	}
	last := signedGroup(b[n-1])
	// The n-th bit is itself the sign's, so it and all beyond it are alike: all noughts, or all ones.
	if beyond := last >> (bitsLeft(n, bits) - 1); beyond != 0 && beyond != -1 {
		return 0, 0, api.ErrMalformed
	}
	v := joinGroups(b[:n])
	if last < 0 {
		v |= ^uint64(0) << (groupBits * n)
	}
	return int64(v), n, nil
}

// SizeU is how many bytes a number without a sign has at least.
func SizeU(v uint64) int {
	n := 1
	for v > groupMask {
		v >>= groupBits
		n++
	}
	return n
}

// SizeS is how many bytes a number with a sign has at least.
func SizeS(v int64) int {
	n := 1
	for !fitsSignedGroup(v) {
		v >>= groupBits
		n++
	}
	return n
}

// copyWithRoom is a copy, because append on b itself could write into the caller's spare room.
func copyWithRoom(b []byte, room int) []byte {
	out := make([]byte, len(b), len(b)+room)
	copy(out, b)
	return out
}

// fitsSignedGroup says whether seven bits, the highest of them the sign's, hold v.
func fitsSignedGroup(v int64) bool {
	return -signBit <= v && v < signBit
}

// countBytes is how many bytes the number at the begin of b has.
func countBytes(b []byte, bits int) (int, error) {
	if bits < 1 || bits > maxBits {
		return 0, api.ErrArg
	}
	for i := range mostBytes(bits) {
		if i == len(b) {
			return 0, api.ErrEnd
		}
		if b[i]&moreBit == 0 {
			return i + 1, nil
		}
	}
	return 0, api.ErrMalformed
}

// mostBytes is how many bytes a number of so many bits may have.
func mostBytes(bits int) int {
	return (bits + groupBits - 1) / groupBits
}

// bitsLeft is how many of the number's bits are left for the last of n bytes, and those that could follow it.
func bitsLeft(n, bits int) int {
	return bits - groupBits*(n-1)
}

// signedGroup is the number that a last byte's seven bits are in two's complement.
func signedGroup(c byte) int8 {
	return int8(c<<1) >> 1
}

// joinGroups is the bytes' groups as one number, noughts above them.
func joinGroups(b []byte) uint64 {
	var v uint64
	for i, c := range b {
		v |= uint64(c&groupMask) << (groupBits * i)
	}
	return v
}
