package mem

import (
	"bytes"
	"errors"
	"math"
	"math/big"
	"math/rand"
	"testing"

	"mandrel/api"
)

// plain is a memory by the chapter's words: each byte that was stored, by its place.
type plain struct {
	pages, most int
	at          map[int64]byte
}

func newPlain(pages, most int) *plain { return &plain{pages, most, map[int64]byte{}} }

func (p *plain) size() int64 { return int64(p.pages) * api.PageSize }

func (p *plain) grow(n uint64) int {
	sum := new(big.Int).Add(new(big.Int).SetUint64(n), big.NewInt(int64(p.pages)))
	if sum.Cmp(big.NewInt(int64(p.most))) > 0 {
		return -1
	}
	before := p.pages
	p.pages = int(sum.Int64())
	return before
}

// address is at and offset together; false: not all of these bytes are there.
func (p *plain) address(at, offset uint64, size int) (int64, bool) {
	if size != 1 && size != 2 && size != 4 && size != 8 {
		return 0, false
	}
	first := new(big.Int).Add(new(big.Int).SetUint64(at), new(big.Int).SetUint64(offset))
	last := new(big.Int).Add(first, big.NewInt(int64(size)-1))
	if last.Cmp(big.NewInt(p.size())) >= 0 {
		return 0, false
	}
	return first.Int64(), true
}

func (p *plain) load(at, offset uint64, size int) (uint64, bool) {
	first, ok := p.address(at, offset, size)
	if !ok {
		return 0, false
	}
	v := uint64(0)
	for i := range size {
		v |= uint64(p.at[first+int64(i)]) << (8 * i)
	}
	return v, true
}

func (p *plain) store(at, offset uint64, size int, v uint64) bool {
	first, ok := p.address(at, offset, size)
	if !ok {
		return false
	}
	for i := range size {
		p.at[first+int64(i)] = byte(v >> (8 * i))
	}
	return true
}

func (p *plain) all() []byte {
	out := make([]byte, p.size())
	for i, b := range p.at {
		out[i] = b
	}
	return out
}

// plainSum reckons with big numbers, and takes the modulus after each step.
func plainSum(all []byte) uint64 {
	h, _ := new(big.Int).SetString("14695981039346656037", 10)
	times := big.NewInt(1099511628211)
	modulus := new(big.Int).Lsh(big.NewInt(1), 64)
	for i, b := range all {
		if b == 0 {
			continue
		}
		for _, by := range []int64{int64(i), int64(b)} {
			h.Xor(h, big.NewInt(by))
			h.Mul(h, times)
			h.Mod(h, modulus)
		}
	}
	return h.Uint64()
}

func make1(t *testing.T, pages, most int) *Memory {
	t.Helper()
	m, err := New(pages, most)
	if err != nil || m == nil {
		t.Fatalf("New(%d, %d): %v, %v", pages, most, m, err)
	}
	return m
}

func isArg(err error) bool {
	var number api.Errno
	return errors.As(err, &number) && number == api.ErrArg
}

// same holds a memory's pages, bytes and sum against those asked for.
func same(t *testing.T, m *Memory, pages int, all []byte) {
	t.Helper()
	if got := m.Pages(); got != pages {
		t.Errorf("Pages: %d, not %d", got, pages)
	}
	got, err := m.Bytes(0, len(all))
	if err != nil || !bytes.Equal(got, all) {
		t.Errorf("Bytes(0, %d): not what was stored (%v)", len(all), err)
	}
	if _, err := m.Bytes(0, len(all)+1); !isArg(err) {
		t.Errorf("Bytes(0, %d): %v, not ErrArg", len(all)+1, err)
	}
	if got, want := m.Sum(), plainSum(all); got != want {
		t.Errorf("Sum: %d, not %d", got, want)
	}
}

// ME1: so many pages, of noughts; what can't be is ErrArg.
func TestNew(t *testing.T) {
	numbers := []int{math.MinInt, -4096, -16, -2, -1, 0, 1, 2, 3, 7, 8, 15, 16, 17, 18, 32, 4096, 65536, math.MaxInt32, math.MaxInt}
	for _, most := range numbers {
		for _, pages := range numbers {
			m, err := New(pages, most)
			if most < 0 || most > 16 || pages < 0 || pages > most {
				if m != nil || !isArg(err) {
					t.Errorf("New(%d, %d): %v, %v, not ErrArg", pages, most, m, err)
				}
				continue
			}
			if err != nil {
				t.Errorf("New(%d, %d): %v", pages, most, err)
				continue
			}
			same(t, m, pages, make([]byte, pages*4096))
		}
	}
}

// ME1: from any pages, by any number.
func TestGrow(t *testing.T) {
	by := []uint64{0, 1, 2, 3, 7, 8, 14, 15, 16, 17, 1 << 31, 1 << 32, 1<<52 - 1, 1 << 52, 1 << 62,
		1<<63 - 1, 1 << 63, math.MaxUint64 - 16, math.MaxUint64 - 15, math.MaxUint64 - 1, math.MaxUint64}
	for most := range 17 {
		for pages := range most + 1 {
			for _, n := range by {
				m, p := make1(t, pages, most), newPlain(pages, most)
				if got, want := m.Grow(n), p.grow(n); got != want {
					t.Errorf("of %d, %d: Grow(%d): %d, not %d", pages, most, n, got, want)
				}
				same(t, m, p.pages, make([]byte, p.pages*4096))
			}
		}
	}
}

// ME1: a step at a time to the most, and one more; what was refused does not hinder.
func TestGrowInSteps(t *testing.T) {
	m := make1(t, 0, 16)
	for pages := range 16 {
		if got := m.Grow(17); got != -1 {
			t.Fatalf("Grow(17) of %d: %d", pages, got)
		}
		if got := m.Grow(0); got != pages {
			t.Fatalf("Grow(0) of %d: %d", pages, got)
		}
		if got := m.Grow(1); got != pages {
			t.Fatalf("Grow(1) of %d: %d", pages, got)
		}
	}
	if got := m.Grow(1); got != -1 {
		t.Errorf("Grow(1) of 16: %d", got)
	}
	if got := m.Grow(0); got != 16 {
		t.Errorf("Grow(0) of 16: %d", got)
	}
	same(t, m, 16, make([]byte, 16*4096))
}

// ME2: the example of the chapter, and the lowest byte first.
func TestLoadStore(t *testing.T) {
	m := make1(t, 1, 1)
	const v = 0x8899aabbccddeeff
	if !m.Store(4092, 0, 4, v) || m.Store(4093, 0, 4, 0) {
		t.Error("Store at the end")
	}
	if got, ok := m.Load(4092, 0, 4); got != 0xccddeeff || !ok {
		t.Errorf("Load(4092, 0, 4): %x, %v", got, ok)
	}
	if !m.Store(3, 5, 8, v) {
		t.Error("Store(3, 5, 8)")
	}
	for _, c := range []struct {
		at, offset uint64
		size       int
		want       uint64
	}{
		{0, 8, 1, 0xff}, {8, 0, 2, 0xeeff}, {4, 4, 4, 0xccddeeff}, {1, 7, 8, v},
		{15, 0, 1, 0x88}, {0, 14, 2, 0x8899}, {12, 0, 4, 0x8899aabb}, {1, 0, 8, 0xff << 56}, {15, 0, 8, 0x88},
	} {
		if got, ok := m.Load(c.at, c.offset, c.size); got != c.want || !ok {
			t.Errorf("Load(%d, %d, %d): %x, %v, not %x", c.at, c.offset, c.size, got, ok, c.want)
		}
	}
	got, err := m.Bytes(7, 10)
	if err != nil || !bytes.Equal(got, []byte{0, 0xff, 0xee, 0xdd, 0xcc, 0xbb, 0xaa, 0x99, 0x88, 0}) {
		t.Errorf("Bytes(7, 10): %x, %v", got, err)
	}
}

// addresses are those beside the borders of memories of so many pages, in both parts, and those beyond 2^64.
func addresses(pages int) [][2]uint64 {
	end := uint64(pages) * 4096
	var list [][2]uint64
	for d := range uint64(10) {
		for _, border := range []uint64{0, 4096, end} {
			for _, sum := range []uint64{border + d, border - d} {
				list = append(list, [2]uint64{sum, 0}, [2]uint64{0, sum}, [2]uint64{1, sum - 1}, [2]uint64{sum - 2, 2},
					[2]uint64{sum / 2, sum - sum/2})
			}
		}
	}
	great := []uint64{1 << 31, 1<<32 - 1, 1 << 32, 1<<32 + 8, 1<<63 - 1, 1 << 63, math.MaxUint64 - 8, math.MaxUint64 - 7, math.MaxUint64 - 1, math.MaxUint64}
	for _, g := range great {
		for _, x := range []uint64{0, 1, 2, 4, 7, 8, 9, 4095, 4096, end, -g, -g + 1, -g + 8, -g - 1} {
			list = append(list, [2]uint64{g, x}, [2]uint64{x, g})
		}
		for _, x := range great {
			list = append(list, [2]uint64{g, x})
		}
	}
	return list
}

func sizes() []int {
	return []int{1, 2, 4, 8, 0, 3, 5, 6, 7, 9, 10, 12, 16, 32, 64, 256, -1, -2, -4, -8, math.MinInt, math.MinInt + 8, math.MaxInt32, math.MaxInt}
}

// ME2: every address beside a border, every size that is one or none: what is done, or that nothing changes.
func TestAddresses(t *testing.T) {
	for _, pages := range []int{0, 1, 2, 16} {
		m, p := make1(t, pages, 16), newPlain(pages, 16)
		for i := range uint64(pages) * 4096 {
			m.Store(i, 0, 1, i%251+1)
			p.store(i, 0, 1, i%251+1)
		}
		same(t, m, pages, p.all())
		v := uint64(0x0123456789abcdef)
		for _, a := range addresses(pages) {
			for _, size := range sizes() {
				got, ok := m.Load(a[0], a[1], size)
				if want, there := p.load(a[0], a[1], size); got != want || ok != there {
					t.Fatalf("of %d: Load(%d, %d, %d): %x, %v, not %x, %v", pages, a[0], a[1], size, got, ok, want, there)
				}
				ok = m.Store(a[0], a[1], size, v)
				if there := p.store(a[0], a[1], size, v); ok != there {
					t.Fatalf("of %d: Store(%d, %d, %d): %v, not %v", pages, a[0], a[1], size, ok, there)
				}
				v = v*6364136223846793005 + 1442695040888963407
			}
		}
		same(t, m, pages, p.all())
	}
}

// ME2: a number that isn't all there changes not even those bytes that are.
func TestStoreOfNothing(t *testing.T) {
	m := make1(t, 1, 2)
	m.Store(4088, 0, 8, 0x1122334455667788)
	before, _ := m.Bytes(0, 4096)
	for _, size := range []int{2, 4, 8} {
		for back := 1; back < size; back++ {
			if m.Store(uint64(4096-back), 0, size, math.MaxUint64) {
				t.Errorf("Store(%d, 0, %d): true", 4096-back, size)
			}
		}
	}
	same(t, m, 1, before)
}

// ME2: bytes there are, and bytes there aren't; beyond the end there are none, so that none may be asked for.
func TestBytes(t *testing.T) {
	m := make1(t, 2, 2)
	all := make([]byte, 8192)
	for i := range all {
		all[i] = byte(i%253 + 1)
		m.Store(0, uint64(i), 1, uint64(all[i]))
	}
	numbers := []int{0, 1, 2, 8, 4095, 4096, 4097, 8191, 8192, 8193, 12288, 65536, math.MaxInt32, math.MaxInt - 8192, math.MaxInt - 1, math.MaxInt,
		-1, -2, -8192, math.MinInt + 1, math.MinInt}
	for _, at := range numbers {
		for _, n := range numbers {
			got, err := m.Bytes(at, n)
			if at < 0 || n < 0 || n > max(0, 8192-at) {
				if got != nil || !isArg(err) {
					t.Errorf("Bytes(%d, %d): %d bytes, %v, not ErrArg", at, n, len(got), err)
				}
				continue
			}
			from := min(at, 8192)
			if err != nil || !bytes.Equal(got, all[from:from+n]) {
				t.Errorf("Bytes(%d, %d): %d bytes, %v", at, n, len(got), err)
			}
		}
	}
}

// ME2: what Bytes answers is a copy, spare room too: neither side sees what the other does.
func TestBytesAreACopy(t *testing.T) {
	m := make1(t, 1, 2)
	m.Store(100, 0, 8, 0x1122334455667788)
	before, _ := m.Bytes(0, 4096)
	got, _ := m.Bytes(100, 8)
	kept := bytes.Clone(got)
	spare := got[:cap(got)]
	for i := range spare {
		spare[i] = 0xee
	}
	same(t, m, 1, before)
	copy(got, kept)
	m.Store(100, 0, 8, 0)
	if !bytes.Equal(got, kept) {
		t.Error("a store is seen in what Bytes answered")
	}
	if m.Grow(1) != 1 {
		t.Error("Grow(1)")
	}
	if v, ok := m.Load(4096, 0, 8); v != 0 || !ok {
		t.Errorf("Load of a new page: %x, %v", v, ok)
	}
}

// ME2: sums worked out by hand, and that a byte, its place and the order tell.
func TestSum(t *testing.T) {
	start, times := uint64(14695981039346656037), uint64(1099511628211)
	m := make1(t, 0, 16)
	if got := m.Sum(); got != start {
		t.Errorf("of no page: %d", got)
	}
	m.Grow(2)
	if got := m.Sum(); got != start {
		t.Errorf("of noughts: %d", got)
	}
	m.Store(0, 0, 1, 5)
	if got, want := m.Sum(), (start*times^5)*times; got != want {
		t.Errorf("of 5 at 0: %d, not %d", got, want)
	}
	m.Store(4097, 0, 1, 0xff)
	want := (start*times ^ 5) * times
	want = ((want^4097)*times ^ 0xff) * times
	if got := m.Sum(); got != want {
		t.Errorf("of 5 at 0 and 255 at 4097: %d, not %d", got, want)
	}
	m.Store(0, 0, 1, 0)
	if got, want := m.Sum(), ((start^4097)*times^0xff)*times; got != want {
		t.Errorf("of 255 at 4097: %d, not %d", got, want)
	}
	m.Grow(14)
	m.Store(65535, 0, 1, 1)
	all, _ := m.Bytes(0, 65536)
	same(t, m, 16, all)
}

// ME3: stores over each other, refused ones and growing between them, held against the plain memory.
func TestStoredIsLoaded(t *testing.T) {
	r := rand.New(rand.NewSource(3))
	for range 20 {
		pages := r.Intn(3)
		m, p := make1(t, pages, 4), newPlain(pages, 4)
		for range 2000 {
			sum := uint64(r.Intn(24)) + uint64(r.Intn(5))*4096 - 12
			at := sum
			if r.Intn(2) == 0 {
				at = r.Uint64() % max(sum, 1)
			}
			size := sizes()[r.Intn(6)]
			v := r.Uint64()
			if got, want := m.Store(at, sum-at, size, v), p.store(at, sum-at, size, v); got != want {
				t.Fatalf("Store(%d, %d, %d): %v", at, sum-at, size, got)
			}
			got, ok := m.Load(sum, 0, 8)
			if want, there := p.load(sum, 0, 8); got != want || ok != there {
				t.Fatalf("Load(%d, 0, 8): %x, %v, not %x, %v", sum, got, ok, want, there)
			}
			if n := r.Uint64() % 4; r.Intn(500) == 0 && m.Grow(n) != p.grow(n) {
				t.Fatalf("Grow(%d)", n)
			}
		}
		same(t, m, p.pages, p.all())
	}
}

// ME3: growing, and growing that is refused, leave every byte; the new ones are noughts.
func TestGrowLeavesAll(t *testing.T) {
	m := make1(t, 1, 5)
	all := make([]byte, 4096)
	for i := range all {
		all[i] = byte(i%255 + 1)
		m.Store(uint64(i), 0, 1, uint64(all[i]))
	}
	for _, n := range []uint64{0, 1, 4, 2, math.MaxUint64, 1, 1} {
		if m.Grow(n) >= 0 {
			all = append(all, make([]byte, n*4096)...)
		}
		same(t, m, len(all)/4096, all)
		m.Store(uint64(len(all)-2), 0, 2, 0xa1b2)
		copy(all[len(all)-2:], []byte{0xb2, 0xa1})
	}
	same(t, m, 5, all)
}

// ME3: no two memories share anything.
func TestMemoriesAreApart(t *testing.T) {
	a, b := make1(t, 1, 2), make1(t, 1, 2)
	a.Store(0, 0, 8, math.MaxUint64)
	a.Grow(1)
	same(t, b, 1, make([]byte, 4096))
}

// A nil Memory: ErrArg, -1, false, 0.
func TestNil(t *testing.T) {
	var m *Memory
	if got := m.Pages(); got != 0 {
		t.Errorf("Pages: %d", got)
	}
	if got := m.Sum(); got != 0 {
		t.Errorf("Sum: %d", got)
	}
	for _, n := range []uint64{0, 1, math.MaxUint64} {
		if got := m.Grow(n); got != -1 {
			t.Errorf("Grow(%d): %d", n, got)
		}
	}
	for _, size := range sizes() {
		if v, ok := m.Load(0, 0, size); v != 0 || ok {
			t.Errorf("Load(0, 0, %d): %d, %v", size, v, ok)
		}
		if m.Store(0, 0, size, 1) {
			t.Errorf("Store(0, 0, %d): true", size)
		}
	}
	for _, at := range []int{-1, 0, 1} {
		for _, n := range []int{-1, 0, 1} {
			if got, err := m.Bytes(at, n); got != nil || !isArg(err) {
				t.Errorf("Bytes(%d, %d): %v, %v", at, n, got, err)
			}
		}
	}
}
