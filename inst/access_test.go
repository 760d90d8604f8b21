package inst_test

import (
	"bytes"
	"math"
	"math/big"
	"math/rand"
	"slices"
	"testing"

	"mandrel/api"
	"mandrel/inst"
	"mandrel/mem"
)

// IN3.

// access is a load or a store, as the names of chapter 4 tell it.
type access struct {
	name   string
	store  bool
	bits   uint // of its kind
	bytes  int
	signed bool
}

func accesses() map[byte]access {
	return map[byte]access{
		0x28: {"i32.load", false, 32, 4, false},
		0x29: {"i64.load", false, 64, 8, false},
		0x2c: {"i32.load8_s", false, 32, 1, true},
		0x2d: {"i32.load8_u", false, 32, 1, false},
		0x2e: {"i32.load16_s", false, 32, 2, true},
		0x2f: {"i32.load16_u", false, 32, 2, false},
		0x30: {"i64.load8_s", false, 64, 1, true},
		0x31: {"i64.load8_u", false, 64, 1, false},
		0x32: {"i64.load16_s", false, 64, 2, true},
		0x33: {"i64.load16_u", false, 64, 2, false},
		0x34: {"i64.load32_s", false, 64, 4, true},
		0x35: {"i64.load32_u", false, 64, 4, false},
		0x36: {"i32.store", true, 32, 4, false},
		0x37: {"i64.store", true, 64, 8, false},
		0x3a: {"i32.store8", true, 32, 1, false},
		0x3b: {"i32.store16", true, 32, 2, false},
		0x3c: {"i64.store8", true, 64, 1, false},
		0x3d: {"i64.store16", true, 64, 2, false},
		0x3e: {"i64.store32", true, 64, 4, false},
	}
}

// address is at modulo 2^32, and offset, together; false: a byte of so many is beyond all of them.
func address(at uint64, offset uint32, many, whole int) (int, bool) {
	low := new(big.Int).Mod(new(big.Int).SetUint64(at), big.NewInt(1<<32))
	sum := low.Add(low, big.NewInt(int64(offset)))
	if new(big.Int).Add(sum, big.NewInt(int64(many))).Cmp(big.NewInt(int64(whole))) > 0 {
		return 0, false
	}
	return int(sum.Int64()), true
}

// loaded is a load by the chapter's words, out of all bytes.
func loaded(all []byte, a access, at uint64, offset uint32) (uint64, api.Trap) {
	first, ok := address(at, offset, a.bytes, len(all))
	if !ok {
		return 0, api.Bounds
	}
	v := new(big.Int)
	for i := a.bytes - 1; i >= 0; i-- {
		v.Add(v.Mul(v, big.NewInt(256)), big.NewInt(int64(all[first+i])))
	}
	if a.signed && all[first+a.bytes-1] >= 128 {
		v.Sub(v, new(big.Int).Lsh(big.NewInt(1), uint(8*a.bytes)))
	}
	return v.Mod(v, new(big.Int).Lsh(big.NewInt(1), a.bits)).Uint64(), api.Well
}

// stored does a store by the chapter's words to a copy of all bytes.
func stored(all []byte, a access, at uint64, offset uint32, v uint64) ([]byte, api.Trap) {
	out := slices.Clone(all)
	first, ok := address(at, offset, a.bytes, len(all))
	if !ok {
		return out, api.Bounds
	}
	for i := range a.bytes {
		out[first+i] = byte(v % 256)
		v /= 256
	}
	return out, api.Well
}

func holdLoad(t *testing.T, m *mem.Memory, op byte, a access, at uint64, offset uint32) {
	t.Helper()
	before := all(t, m)
	want, wantTrap := loaded(before, a, at, offset)
	v, trap, err := inst.Load(m, op, at, offset)
	if v != want || trap != wantTrap || err != nil {
		t.Errorf("%s of %d pages at %d and %d: %d, %d, %v, want %d, %d", a.name, m.Pages(), at, offset, v, trap, err, want, wantTrap)
	}
	if !bytes.Equal(all(t, m), before) {
		t.Errorf("%s changed the memory", a.name)
	}
}

func holdStore(t *testing.T, m *mem.Memory, op byte, a access, at uint64, offset uint32, v uint64) {
	t.Helper()
	want, wantTrap := stored(all(t, m), a, at, offset, v)
	trap, err := inst.Store(m, op, at, offset, v)
	if trap != wantTrap || err != nil {
		t.Errorf("%s of %d pages at %d and %d: %d, %v, want %d", a.name, m.Pages(), at, offset, trap, err, wantTrap)
	}
	if !bytes.Equal(all(t, m), want) {
		t.Errorf("%s of %d at %d and %d: other bytes than asked for", a.name, v, at, offset)
	}
}

// parts are those of an address.
type parts struct {
	at     uint64
	offset uint32
}

// places are addresses about each edge.
func places(whole uint64) []parts {
	var out []parts
	lay := func(at uint64, offset uint32) { out = append(out, parts{at, offset}) }
	ends := []uint64{0, 1, 3, 2048}
	for back := range uint64(10) {
		ends = append(ends, whole-back)
	}
	ends = append(ends, whole+1)
	upper := []uint64{0, 1 << 32, 1 << 63, 0xdeadbeef << 32, math.MaxUint32 << 32}
	for _, e := range ends {
		for _, u := range upper {
			lay(e&math.MaxUint32|u, 0)
			lay(u, uint32(e))
			lay(u|e/2&math.MaxUint32, uint32(e-e/2))
		}
	}
	for _, u := range upper {
		lay(u, math.MaxUint32)
		lay(u|1, math.MaxUint32) // 2^32, which is not 0
		lay(u|math.MaxUint32, 0)
		lay(u|math.MaxUint32, 1)
		lay(u|math.MaxUint32, 2)
		lay(u|math.MaxUint32, math.MaxUint32)
		lay(u|1<<31, 1<<31)
	}
	return out
}

// filled is a memory whose bytes are below and above 128, so that all signs come about.
func filled(t *testing.T, pages int, r *rand.Rand) *mem.Memory {
	t.Helper()
	m := memory(t, pages)
	for i := range max(0, pages) * api.PageSize {
		m.Store(uint64(i), 0, 1, r.Uint64())
	}
	return m
}

func TestLoadsAtAllEdges(t *testing.T) {
	r := rand.New(rand.NewSource(1))
	for _, pages := range []int{-1, 0, 1, 2} {
		m := filled(t, pages, r)
		for op, a := range accesses() {
			if a.store {
				continue
			}
			for _, p := range places(uint64(m.Pages()) * api.PageSize) {
				holdLoad(t, m, op, a, p.at, p.offset)
			}
		}
	}
}

func TestStoresAtAllEdges(t *testing.T) {
	r := rand.New(rand.NewSource(2))
	for _, pages := range []int{-1, 0, 1, 2} {
		m := filled(t, pages, r)
		for op, a := range accesses() {
			if !a.store {
				continue
			}
			for _, p := range places(uint64(m.Pages()) * api.PageSize) {
				holdStore(t, m, op, a, p.at, p.offset, r.Uint64())
			}
		}
	}
}

func TestTheLastPlaceOfAll(t *testing.T) {
	m := memory(t, 16)
	for op, a := range accesses() {
		last := uint64(65536 - a.bytes)
		for _, at := range []uint64{last, last + 1, last | 7<<40} {
			if a.store {
				holdStore(t, m, op, a, at, 0, 0x8182838485868788)
			} else {
				holdLoad(t, m, op, a, at, 0)
			}
		}
	}
}

// Values written out, so that nothing hangs on the second reading alone.
func TestSigns(t *testing.T) {
	m := memory(t, 1)
	m.Store(0, 0, 8, 0xf1f2f3f4f5f6f7f8)
	m.Store(8, 0, 8, 0x7172737475767778)
	for op, want := range map[byte][2]uint64{
		0x28: {0xf5f6f7f8, 0x75767778},
		0x29: {0xf1f2f3f4f5f6f7f8, 0x7172737475767778},
		0x2c: {0xfffffff8, 0x78},
		0x2d: {0xf8, 0x78},
		0x2e: {0xfffff7f8, 0x7778},
		0x2f: {0xf7f8, 0x7778},
		0x30: {0xfffffffffffffff8, 0x78},
		0x31: {0xf8, 0x78},
		0x32: {0xfffffffffffff7f8, 0x7778},
		0x33: {0xf7f8, 0x7778},
		0x34: {0xfffffffff5f6f7f8, 0x75767778},
		0x35: {0xf5f6f7f8, 0x75767778},
	} {
		for i, w := range want {
			v, trap, err := inst.Load(m, op, uint64(8*i), 0)
			if v != w || trap != api.Well || err != nil {
				t.Errorf("%#x at %d: %#x, %d, %v, want %#x", op, 8*i, v, trap, err, w)
			}
		}
	}
}

// Every byte by each load of one byte.
func TestEveryByte(t *testing.T) {
	m := memory(t, 1)
	for b := range 256 {
		m.Store(uint64(b), 0, 1, uint64(b))
	}
	for op, a := range accesses() {
		if a.store || a.bytes > 2 {
			continue
		}
		for b := range 256 {
			holdLoad(t, m, op, a, uint64(b), 0)
		}
	}
}

// What is stored is loaded, and just its lowest bytes.
func TestStoredIsLoaded(t *testing.T) {
	m := memory(t, 1)
	for _, c := range []struct {
		store, load byte
		want        uint64
	}{
		{0x36, 0x28, 0x85868788},
		{0x37, 0x29, 0x8182838485868788},
		{0x3a, 0x2d, 0x88},
		{0x3a, 0x2c, 0xffffff88},
		{0x3b, 0x2f, 0x8788},
		{0x3b, 0x2e, 0xffff8788},
		{0x3c, 0x31, 0x88},
		{0x3c, 0x30, 0xffffffffffffff88},
		{0x3d, 0x33, 0x8788},
		{0x3d, 0x32, 0xffffffffffff8788},
		{0x3e, 0x35, 0x85868788},
		{0x3e, 0x34, 0xffffffff85868788},
	} {
		if trap, err := inst.Store(m, c.store, 1<<35|20, 3, 0x8182838485868788); trap != api.Well || err != nil {
			t.Errorf("%#x: %d, %v", c.store, trap, err)
		}
		v, trap, err := inst.Load(m, c.load, 20, 3)
		if v != c.want || trap != api.Well || err != nil {
			t.Errorf("%#x behind %#x: %#x, %d, %v, want %#x", c.load, c.store, v, trap, err, c.want)
		}
	}
}

// wantNoLoad fails, if Load takes what is none.
func wantNoLoad(t *testing.T, s *mem.Memory, op byte, at uint64) {
	t.Helper()
	if v, trap, err := inst.Load(s, op, at, 0); v != 0 || trap != api.Well || number(err) != api.ErrArg {
		t.Errorf("Load by %#x: %d, %d, %v, want the error %d", op, v, trap, err, api.ErrArg)
	}
}

// wantNoStore fails, if Store takes what is none.
func wantNoStore(t *testing.T, s *mem.Memory, op byte, at uint64) {
	t.Helper()
	if trap, err := inst.Store(s, op, at, 0, math.MaxUint64); trap != api.Well || number(err) != api.ErrArg {
		t.Errorf("Store by %#x: %d, %v, want the error %d", op, trap, err, api.ErrArg)
	}
}

// What is none is told ahead of what is beyond.
func TestNoLoadAndNoStore(t *testing.T) {
	m := filled(t, 1, rand.New(rand.NewSource(3)))
	before := all(t, m)
	l := accesses()
	for i := range 256 {
		op := byte(i)
		a, ok := l[op]
		for _, s := range []*mem.Memory{m, nil} {
			for _, at := range []uint64{0, 1 << 40, 1 << 20} {
				if !ok || a.store {
					wantNoLoad(t, s, op, at)
				}
				if !ok || !a.store {
					wantNoStore(t, s, op, at)
				}
			}
		}
	}
	if !bytes.Equal(all(t, m), before) {
		t.Error("what is no store changed the memory")
	}
}

func TestAccessesThatGoOn(t *testing.T) {
	r := rand.New(rand.NewSource(4))
	m := memory(t, 1)
	l := accesses()
	var ops []byte
	for op := range l {
		ops = append(ops, op)
	}
	slices.Sort(ops)
	for range 4000 {
		op := ops[r.Intn(len(ops))]
		at, offset := uint64(r.Intn(4200))|r.Uint64()<<32, uint32(r.Intn(6))
		if l[op].store {
			holdStore(t, m, op, l[op], at, offset, r.Uint64())
		} else {
			holdLoad(t, m, op, l[op], at, offset)
		}
	}
}
