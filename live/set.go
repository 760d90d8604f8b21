package live

import "math/bits"

// Set is a set of registers, as bits.
type Set []uint64

// word is how many registers one number has the bits of: the lowest one is the first register's.
const word = 64

// setFor is a set that has room for so many registers, and none of them in it.
func setFor(regs int) Set { return make(Set, (regs+word-1)/word) }

// Has tells whether a register is in a set.
func (s Set) Has(r int) bool {
	return 0 <= r && r/word < len(s) && s[r/word]&bit(r) != 0
}

// List are a set's registers.
func (s Set) List() []int {
	out := make([]int, 0, s.many())
	for r := range s.each {
		out = append(out, r)
	}
	return out
}

// each goes over a set's registers, ascending.
func (s Set) each(yield func(r int) bool) {
	for i, w := range s {
		for w != 0 {
			if !yield(i*word + bits.TrailingZeros64(w)) {
				return
			}
			w &= w - 1
		}
	}
}

func (s Set) many() int {
	n := 0
	for _, w := range s {
		n += bits.OnesCount64(w)
	}
	return n
}

func (s Set) add(r int)  { s[r/word] |= bit(r) }
func (s Set) drop(r int) { s[r/word] &^= bit(r) }

// join adds all that are in another set of as much room.
func (s Set) join(other Set) {
	for i, w := range other {
		s[i] |= w
	}
}

func bit(r int) uint64 { return 1 << (r % word) }
