package num

import (
	"errors"
	"fmt"
	"math"
	"math/big"
	"testing"

	"mandrel/api"
)

// instr is an instruction as the chapter lists it: its name, its number in I32 and in I64.
type instr struct {
	name     string
	i32, i64 byte
}

func oneOperand() []instr {
	return []instr{{"eqz", 0x45, 0x50}, {"clz", 0x67, 0x79}, {"ctz", 0x68, 0x7a}, {"popcnt", 0x69, 0x7b}}
}

func twoOperands() []instr {
	return []instr{
		{"eq", 0x46, 0x51}, {"ne", 0x47, 0x52},
		{"lt_s", 0x48, 0x53}, {"lt_u", 0x49, 0x54}, {"gt_s", 0x4a, 0x55}, {"gt_u", 0x4b, 0x56},
		{"le_s", 0x4c, 0x57}, {"le_u", 0x4d, 0x58}, {"ge_s", 0x4e, 0x59}, {"ge_u", 0x4f, 0x5a},
		{"add", 0x6a, 0x7c}, {"sub", 0x6b, 0x7d}, {"mul", 0x6c, 0x7e},
		{"div_s", 0x6d, 0x7f}, {"div_u", 0x6e, 0x80}, {"rem_s", 0x6f, 0x81}, {"rem_u", 0x70, 0x82},
		{"and", 0x71, 0x83}, {"or", 0x72, 0x84}, {"xor", 0x73, 0x85},
		{"shl", 0x74, 0x86}, {"shr_s", 0x75, 0x87}, {"shr_u", 0x76, 0x88}, {"rotl", 0x77, 0x89}, {"rotr", 0x78, 0x8a},
	}
}

// operands are numbers beside all borders of both kinds, with and without upper bits.
func operands() []uint64 {
	list := []uint64{0, 1, 2, 3, 5, 7, 10, 100, 31, 32, 33, 63, 64, 65, 96, 128, 0x80000000, 0x7fffffff, 0xffffffff,
		0x123456789abcdef0, 0xdeadbeefcafebabe, 0xffffffff00000000, 0xffffffff00000001, 0xdeadbeef80000000,
		0x00000001ffffffff, 0xfffffffe00000005, 0x5555555555555555, 0xaaaaaaaaaaaaaaaa,
		1 << 63, math.MaxInt64, math.MaxUint64, -7 & math.MaxUint64, -2 & math.MaxUint64, -100 & math.MaxUint64}
	for _, k := range []int{8, 15, 16, 30, 31, 32, 33, 47, 62, 63} {
		p := uint64(1) << k
		list = append(list, p-1, p, p+1, -p)
	}
	return list
}

func power(w int) *big.Int { return new(big.Int).Lsh(big.NewInt(1), uint(w)) }

// modulo is v without a sign, below 2^w.
func modulo(v *big.Int, w int) *big.Int {
	return new(big.Int).Mod(v, power(w))
}

// signed is a value below 2^w as a number with a sign.
func signed(v *big.Int, w int) *big.Int {
	if v.Bit(w-1) == 1 {
		return new(big.Int).Sub(v, power(w))
	}
	return v
}

func number(holds bool) *big.Int {
	if holds {
		return big.NewInt(1)
	}
	return new(big.Int)
}

// onePlain does an instruction bit by bit, by the chapter's words.
func onePlain(name string, v *big.Int, w int) *big.Int {
	switch name {
	case "eqz":
		return number(v.Sign() == 0)
	case "clz":
		return big.NewInt(int64(w - v.BitLen()))
	case "ctz":
		n := 0
		for n < w && v.Bit(n) == 0 {
			n++
		}
		return big.NewInt(int64(n))
	}
	n := uint(0)
	for i := range w {
		n += v.Bit(i)
	}
	return big.NewInt(int64(n))
}

// comparePlain answers nil if the name is none of a comparison.
func comparePlain(name string, u, v *big.Int, w int) *big.Int {
	if len(name) == 4 && name[2:] == "_s" {
		u, v = signed(u, w), signed(v, w)
	}
	c := u.Cmp(v)
	switch name {
	case "eq":
		return number(c == 0)
	case "ne":
		return number(c != 0)
	case "lt_s", "lt_u":
		return number(c < 0)
	case "gt_s", "gt_u":
		return number(c > 0)
	case "le_s", "le_u":
		return number(c <= 0)
	case "ge_s", "ge_u":
		return number(c >= 0)
	}
	return nil
}

func dividePlain(name string, u, v *big.Int, w int) (*big.Int, api.Trap) {
	if v.Sign() == 0 {
		return new(big.Int), api.Zero
	}
	if name == "div_s" || name == "rem_s" {
		u, v = signed(u, w), signed(v, w)
	}
	quotient, left := new(big.Int).QuoRem(u, v, new(big.Int))
	if name == "rem_s" || name == "rem_u" {
		return left, api.Well
	}
	if quotient.Cmp(power(w-1)) >= 0 && name == "div_s" {
		return new(big.Int), api.Overflow
	}
	return quotient, api.Well
}

// turnPlain moves bit after bit to its new place.
func turnPlain(v *big.Int, by, w int) *big.Int {
	out := new(big.Int)
	for i := range w {
		out.SetBit(out, (i+by)%w, v.Bit(i))
	}
	return out
}

func twoPlain(name string, u, v *big.Int, w int) (*big.Int, api.Trap) {
	if c := comparePlain(name, u, v, w); c != nil {
		return c, api.Well
	}
	by := int(modulo(v, w).Uint64() % uint64(w))
	out := new(big.Int)
	switch name {
	case "div_s", "div_u", "rem_s", "rem_u":
		return dividePlain(name, u, v, w)
	case "add":
		out.Add(u, v)
	case "sub":
		out.Sub(u, v)
	case "mul":
		out.Mul(u, v)
	case "and":
		out.And(u, v)
	case "or":
		out.Or(u, v)
	case "xor":
		out.Xor(u, v)
	case "shl":
		out.Lsh(u, uint(by))
	case "shr_s":
		out.Rsh(signed(u, w), uint(by))
	case "shr_u":
		out.Rsh(u, uint(by))
	case "rotl":
		out = turnPlain(u, by, w)
	case "rotr":
		out = turnPlain(u, w-by, w)
	}
	return out, api.Well
}

func wantOne(t *testing.T, op byte, x, want uint64) {
	t.Helper()
	if v, err := One(op, x); v != want || err != nil {
		t.Errorf("One(%#x, %#x): %#x, %v, want %#x", op, x, v, err, want)
	}
}

func wantTwo(t *testing.T, op byte, x, y, want uint64, trap api.Trap) {
	t.Helper()
	if v, got, err := Two(op, x, y); v != want || got != trap || err != nil {
		t.Errorf("Two(%#x, %#x, %#x): %#x, %d, %v, want %#x, %d", op, x, y, v, got, err, want, trap)
	}
}

func wantErrArg(t *testing.T, what string, err error) {
	t.Helper()
	var got api.Errno
	if !errors.As(err, &got) || got != api.ErrArg {
		t.Errorf("%s: error %v, want ErrArg", what, err)
	}
}

// NU1.

func TestExamples(t *testing.T) {
	wantTwo(t, 0x6d, 1<<31, 1<<32-1, 0, api.Overflow)
	wantOne(t, 0x67, 1, 31)
}

// TestOneEdges: noughts, the least and the greatest, upper bits that are left out.
func TestOneEdges(t *testing.T) {
	const least32, upper, all = 1 << 31, 0xffffffff00000000, math.MaxUint64
	for _, c := range []struct {
		op      byte
		x, want uint64
	}{
		{0x45, 0, 1}, {0x45, 1, 0}, {0x45, upper, 1}, {0x45, least32, 0},
		{0x50, 0, 1}, {0x50, 1, 0}, {0x50, upper, 0}, {0x50, 1 << 63, 0},
		{0x67, 0, 32}, {0x67, upper, 32}, {0x67, least32, 0}, {0x67, 1<<31 - 1, 1}, {0x67, all, 0},
		{0x79, 0, 64}, {0x79, 1, 63}, {0x79, upper, 0}, {0x79, least32, 32}, {0x79, all, 0},
		{0x68, 0, 32}, {0x68, upper, 32}, {0x68, least32, 31}, {0x68, 1 << 40, 32}, {0x68, all, 0},
		{0x7a, 0, 64}, {0x7a, upper, 32}, {0x7a, 1 << 63, 63}, {0x7a, 1 << 40, 40}, {0x7a, all, 0},
		{0x69, 0, 0}, {0x69, upper, 0}, {0x69, upper | 5, 2}, {0x69, all, 32},
		{0x7b, 0, 0}, {0x7b, upper, 32}, {0x7b, upper | 5, 34}, {0x7b, all, 64},
		{0xa7, 0, 0}, {0xa7, upper, 0}, {0xa7, all, 1<<32 - 1}, {0xa7, 1<<32 + 7, 7}, {0xa7, least32, least32},
		{0xac, 0, 0}, {0xac, 1<<31 - 1, 1<<31 - 1}, {0xac, least32, 0xffffffff80000000}, {0xac, 1<<32 - 1, all},
		{0xac, upper, 0}, {0xac, upper | 1, 1}, {0xac, 1<<32 | least32, 0xffffffff80000000},
		{0xad, 0, 0}, {0xad, least32, least32}, {0xad, 1<<32 - 1, 1<<32 - 1}, {0xad, upper | 1, 1}, {0xad, all, 1<<32 - 1},
	} {
		wantOne(t, c.op, c.x, c.want)
	}
}

// TestTwoEdges: divisions, shifts and turns where the chapter draws a line.
func TestTwoEdges(t *testing.T) {
	const least32, minus32, least64, minus64 = 1 << 31, 1<<32 - 1, 1 << 63, math.MaxUint64
	for _, c := range []struct {
		op         byte
		x, y, want uint64
		trap       api.Trap
	}{
		{0x6d, least32, minus32, 0, api.Overflow},
		{0x6d, least32, minus64, 0, api.Overflow},
		{0x6d, 0xffffffff00000000 | least32, minus32, 0, api.Overflow},
		{0x6d, least32 + 1, minus32, 1<<31 - 1, api.Well},
		{0x6d, least32, 1, least32, api.Well},
		{0x6d, minus32 - 6, 2, minus32 - 2, api.Well}, // -7 / 2 = -3
		{0x6d, 7, minus32 - 1, minus32 - 2, api.Well}, // 7 / -2 = -3
		{0x6d, 7, 1 << 32, 0, api.Zero},
		{0x6d, least32, 0, 0, api.Zero},
		{0x6e, least32, minus32, 0, api.Well},
		{0x6e, minus64, 1, minus32, api.Well},
		{0x6e, 0, 0, 0, api.Zero},
		{0x6e, 7, 1 << 32, 0, api.Zero},
		{0x6f, least32, minus32, 0, api.Well},
		{0x6f, minus32 - 6, 2, minus32, api.Well}, // -7 by 2 leaves -1
		{0x6f, 7, minus32 - 1, 1, api.Well},
		{0x6f, 7, 1 << 32, 0, api.Zero},
		{0x70, minus32, 10, 5, api.Well},
		{0x70, 7, 1 << 32, 0, api.Zero},
		{0x7f, least64, minus64, 0, api.Overflow},
		{0x7f, least64, minus32, -(least64 / minus32) & minus64, api.Well},
		{0x7f, least64 + 1, minus64, 1<<63 - 1, api.Well},
		{0x7f, least32, minus32, 0, api.Well},
		{0x7f, least64, 0, 0, api.Zero},
		{0x80, least64, minus64, 0, api.Well},
		{0x80, 7, 0, 0, api.Zero},
		{0x80, 7, 1 << 32, 0, api.Well},
		{0x81, least64, minus64, 0, api.Well},
		{0x81, minus64 - 6, 2, minus64, api.Well},
		{0x81, 7, 0, 0, api.Zero},
		{0x82, minus64, 10, 5, api.Well},
		{0x82, 7, 0, 0, api.Zero},

		{0x6a, minus32, 1, 0, api.Well}, {0x6b, 0, 1, minus32, api.Well}, {0x6c, minus32, minus32, 1, api.Well},
		{0x7c, minus32, 1, 1 << 32, api.Well}, {0x7d, 0, 1, minus64, api.Well}, {0x7e, minus64, minus64, 1, api.Well},
		{0x46, 5, 1<<32 + 5, 1, api.Well}, {0x51, 5, 1<<32 + 5, 0, api.Well},
		{0x48, least32, 0, 1, api.Well}, {0x49, least32, 0, 0, api.Well}, {0x53, least32, 0, 0, api.Well}, {0x53, least64, 0, 1, api.Well},

		{0x74, 1, 0, 1, api.Well}, {0x74, 1, 31, least32, api.Well}, {0x74, 1, 32, 1, api.Well}, {0x74, 1, 33, 2, api.Well}, {0x74, 3, 31, least32, api.Well},
		{0x75, least32, 31, minus32, api.Well}, {0x75, least32, 32, least32, api.Well}, {0x75, least32, 0, least32, api.Well}, {0x75, 1 << 30, 30, 1, api.Well},
		{0x76, least32, 31, 1, api.Well}, {0x76, least32, 32, least32, api.Well}, {0x76, minus64, 4, minus32 >> 4, api.Well},
		{0x77, least32, 1, 1, api.Well}, {0x77, least32, 0, least32, api.Well}, {0x77, least32, 32, least32, api.Well}, {0x77, 0xabcd9876, 36, 0xbcd9876a, api.Well},
		{0x78, 1, 1, least32, api.Well}, {0x78, 1, 0, 1, api.Well}, {0x78, 1, 32, 1, api.Well}, {0x78, 0xabcd9876, 36, 0x6abcd987, api.Well},
		{0x86, 1, 63, least64, api.Well}, {0x86, 1, 64, 1, api.Well}, {0x86, 1, 65, 2, api.Well}, {0x86, 1, 32, 1 << 32, api.Well},
		{0x87, least64, 63, minus64, api.Well}, {0x87, least64, 64, least64, api.Well},
		{0x88, least64, 63, 1, api.Well}, {0x88, least64, 64, least64, api.Well},
		{0x89, least64, 1, 1, api.Well}, {0x89, least64, 64, least64, api.Well}, {0x89, 1, 32, 1 << 32, api.Well},
		{0x8a, 1, 1, least64, api.Well}, {0x8a, 1, 64, 1, api.Well}, {0x8a, 1, 129, least64, api.Well},
	} {
		wantTwo(t, c.op, c.x, c.y, c.want, c.trap)
	}
}

// TestOneAgainstPlain: each instruction of one operand, of both kinds, at all operands.
func TestOneAgainstPlain(t *testing.T) {
	for _, x := range operands() {
		whole := new(big.Int).SetUint64(x)
		for _, in := range oneOperand() {
			wantOne(t, in.i32, x, onePlain(in.name, modulo(whole, 32), 32).Uint64())
			wantOne(t, in.i64, x, onePlain(in.name, whole, 64).Uint64())
		}
		low := modulo(whole, 32)
		wantOne(t, 0xa7, x, low.Uint64())
		wantOne(t, 0xac, x, modulo(signed(low, 32), 64).Uint64())
		wantOne(t, 0xad, x, low.Uint64())
	}
}

// TestTwoAgainstPlain: each instruction of two operands, of both kinds, at all pairs.
func TestTwoAgainstPlain(t *testing.T) {
	for _, x := range operands() {
		for _, y := range operands() {
			u, v := new(big.Int).SetUint64(x), new(big.Int).SetUint64(y)
			for _, in := range twoOperands() {
				want, trap := twoPlain(in.name, modulo(u, 32), modulo(v, 32), 32)
				wantTwo(t, in.i32, x, y, modulo(want, 32).Uint64(), trap)
				want, trap = twoPlain(in.name, u, v, 64)
				wantTwo(t, in.i64, x, y, modulo(want, 64).Uint64(), trap)
			}
		}
	}
}

// TestShiftsByEverything: all ways to shift and turn, by 0 up to more than twice the width.
func TestShiftsByEverything(t *testing.T) {
	for _, x := range []uint64{0x123456789abcdef1, 0xfedcba9876543210, 1, 1 << 31, 1 << 63} {
		for y := range uint64(200) {
			u, v := new(big.Int).SetUint64(x), new(big.Int).SetUint64(y)
			for _, in := range twoOperands() {
				if in.i32 < 0x74 {
					continue
				}
				want, _ := twoPlain(in.name, modulo(u, 32), v, 32)
				wantTwo(t, in.i32, x, y, modulo(want, 32).Uint64(), api.Well)
				want, _ = twoPlain(in.name, u, v, 64)
				wantTwo(t, in.i64, x, y, modulo(want, 64).Uint64(), api.Well)
			}
		}
	}
}

// TestOpsThatAreNone: every number that the chapter doesn't list is ErrArg, with zero values beside it.
func TestOpsThatAreNone(t *testing.T) {
	isOne, isTwo := [256]bool{0xa7: true, 0xac: true, 0xad: true}, [256]bool{}
	for _, in := range oneOperand() {
		isOne[in.i32], isOne[in.i64] = true, true
	}
	for _, in := range twoOperands() {
		isTwo[in.i32], isTwo[in.i64] = true, true
	}
	for op := range 256 {
		for _, x := range []uint64{0, 1, math.MaxUint64} {
			v, err := One(byte(op), x)
			if isOne[op] {
				if err != nil {
					t.Errorf("One(%#x): %v", op, err)
				}
			} else {
				wantErrArg(t, fmt.Sprintf("One(%#x)", op), err)
				if v != 0 {
					t.Errorf("One(%#x): %d beside an error", op, v)
				}
			}
			v, trap, err := Two(byte(op), x, x)
			if isTwo[op] {
				if err != nil {
					t.Errorf("Two(%#x): %v", op, err)
				}
			} else {
				wantErrArg(t, fmt.Sprintf("Two(%#x)", op), err)
				if v != 0 || trap != api.Well {
					t.Errorf("Two(%#x): %d, %d beside an error", op, v, trap)
				}
			}
		}
	}
}

// NU2.

func TestSigned(t *testing.T) {
	for _, c := range []struct {
		k    api.Kind
		x    uint64
		want int64
	}{
		{api.I32, 0, 0}, {api.I32, 1<<31 - 1, math.MaxInt32}, {api.I32, 1 << 31, math.MinInt32}, {api.I32, 1<<32 - 1, -1},
		{api.I32, 0xffffffff00000000, 0}, {api.I32, 0xffffffff7fffffff, math.MaxInt32}, {api.I32, 1<<32 | 1<<31, math.MinInt32},
		{api.I64, 0, 0}, {api.I64, 1 << 31, 1 << 31}, {api.I64, 1<<32 - 1, 1<<32 - 1},
		{api.I64, math.MaxInt64, math.MaxInt64}, {api.I64, 1 << 63, math.MinInt64}, {api.I64, math.MaxUint64, -1},
	} {
		if got, err := Signed(c.k, c.x); got != c.want || err != nil {
			t.Errorf("Signed(%#x, %#x): %d, %v, want %d", c.k, c.x, got, err, c.want)
		}
	}
}

func TestValue(t *testing.T) {
	for _, c := range []struct {
		k    api.Kind
		n    int64
		want uint64
	}{
		{api.I32, 0, 0}, {api.I32, -1, 1<<32 - 1}, {api.I32, math.MinInt32, 1 << 31}, {api.I32, math.MaxInt32, 1<<31 - 1},
		{api.I32, 1 << 32, 0}, {api.I32, 1<<32 + 5, 5}, {api.I32, math.MinInt32 - 1, 1<<31 - 1},
		{api.I32, math.MinInt64, 0}, {api.I32, math.MaxInt64, 1<<32 - 1},
		{api.I64, 0, 0}, {api.I64, -1, math.MaxUint64}, {api.I64, 1 << 32, 1 << 32},
		{api.I64, math.MinInt64, 1 << 63}, {api.I64, math.MaxInt64, math.MaxInt64},
	} {
		if got, err := Value(c.k, c.n); got != c.want || err != nil {
			t.Errorf("Value(%#x, %d): %#x, %v, want %#x", c.k, c.n, got, err, c.want)
		}
	}
}

// TestValueOfSigned: both ways it is the same number modulo 2^w, within its kind's bounds.
func TestValueOfSigned(t *testing.T) {
	for _, x := range operands() {
		for k, w := range map[api.Kind]int{api.I32: 32, api.I64: 64} {
			want := modulo(new(big.Int).SetUint64(x), w)
			n, err := Signed(k, x)
			if err != nil || n != signed(want, w).Int64() {
				t.Errorf("Signed(%#x, %#x): %d, %v", k, x, n, err)
			}
			if v, err := Value(k, n); err != nil || v != want.Uint64() {
				t.Errorf("Value(%#x, %d): %#x, %v", k, n, v, err)
			}
			if v, err := Value(k, int64(x)); err != nil || v != want.Uint64() {
				t.Errorf("Value(%#x, %d): %#x, %v", k, int64(x), v, err)
			}
		}
	}
}

func TestWrongKinds(t *testing.T) {
	for k := range 256 {
		kind := api.Kind(k)
		if kind == api.I32 || kind == api.I64 {
			continue
		}
		n, err := Signed(kind, 5)
		wantErrArg(t, fmt.Sprintf("Signed(%#x)", k), err)
		v, err := Value(kind, 5)
		wantErrArg(t, fmt.Sprintf("Value(%#x)", k), err)
		if n != 0 || v != 0 {
			t.Errorf("kind %#x: %d, %d beside an error", k, n, v)
		}
	}
}

// NU3.

// do is what comes of an instruction that must not end in a trap.
func do(t *testing.T, op byte, x, y uint64) uint64 {
	t.Helper()
	v, trap, err := Two(op, x, y)
	if trap != api.Well || err != nil {
		t.Errorf("Two(%#x, %#x, %#x): %d, %v", op, x, y, trap, err)
	}
	return v
}

// TestQuotientTimesDivisor: the quotient times the divisor, and what is left, are the dividend.
func TestQuotientTimesDivisor(t *testing.T) {
	for _, c := range []struct{ div, rem, mul, add byte }{
		{0x6d, 0x6f, 0x6c, 0x6a}, {0x6e, 0x70, 0x6c, 0x6a}, {0x7f, 0x81, 0x7e, 0x7c}, {0x80, 0x82, 0x7e, 0x7c},
	} {
		for _, x := range operands() {
			for _, y := range operands() {
				quotient, trap, err := Two(c.div, x, y)
				if err != nil {
					t.Fatal(err)
				}
				if trap != api.Well {
					continue
				}
				got := do(t, c.add, do(t, c.mul, quotient, y), do(t, c.rem, x, y))
				if want := do(t, c.add, x, 0); got != want {
					t.Errorf("%#x of %#x by %#x: %#x times it and the rest are %#x", c.div, x, y, quotient, got)
				}
			}
		}
	}
}

// TestTurnedThereAndBack: turned by as much one way and back, it is the same.
func TestTurnedThereAndBack(t *testing.T) {
	for _, c := range []struct{ left, right, or byte }{{0x77, 0x78, 0x72}, {0x89, 0x8a, 0x84}} {
		for _, x := range operands() {
			for _, y := range operands() {
				want := do(t, c.or, x, 0)
				if got := do(t, c.right, do(t, c.left, x, y), y); got != want {
					t.Errorf("%#x turned by %#x left and right is %#x", x, y, got)
				}
				if got := do(t, c.left, do(t, c.right, x, y), y); got != want {
					t.Errorf("%#x turned by %#x right and left is %#x", x, y, got)
				}
			}
		}
	}
}
