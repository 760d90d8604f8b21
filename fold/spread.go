package fold

import (
	"slices"

	"mandrel/vcode"
)

// spread finds what is known at the begins of blocks: at first what is known by the ways on which each is come to first, and then less and less, till nothing is known that is not so on all ways. What a register loses at a block's begin it loses once.
type spread struct {
	blocks []vcode.Block
	next   [][]int          // of each block those that may follow, each once
	given  []int            // the registers that something gives: all others have everywhere what they begin with
	begins []map[int]uint64 // nil of a block that was not come to
	ends   []sight          // of each block as it was gone through last
	lost   [][]int          // of each block the registers that were known at its begin when it was gone through last, and are not any more
	again  []int            // the blocks that have such registers
}

// beginsOf are, of each block, the registers that are known at its begin, with their values; nil, if it can't be reached. order is layer 14's.
func beginsOf(c vcode.Code, order []int) []map[int]uint64 {
	many := len(c.Blocks)
	s := spread{
		blocks: c.Blocks,
		next:   nextOf(c.Blocks),
		given:  givenIn(c),
		begins: make([]map[int]uint64, many),
		ends:   make([]sight, many),
		lost:   make([][]int, many),
	}
	s.begins[0] = knownFirst(c)
	for _, b := range order {
		s.goThrough(b)
	}
	for len(s.again) > 0 {
		last := len(s.again) - 1
		b := s.again[last]
		s.again = s.again[:last]
		s.goAgain(b)
	}
	return s.begins
}

// knownFirst is what is known where code begins.
func knownFirst(c vcode.Code) map[int]uint64 {
	out := map[int]uint64{}
	for r := c.Params; r < c.Regs; r++ {
		out[r] = 0
	}
	return out
}

func nextOf(blocks []vcode.Block) [][]int {
	out := make([][]int, len(blocks))
	for i, b := range blocks {
		out[i] = slices.Clone(b.Next)
		slices.Sort(out[i])
		out[i] = slices.Compact(out[i])
	}
	return out
}

func givenIn(c vcode.Code) []int {
	is := make([]bool, c.Regs)
	var out []int
	for _, b := range c.Blocks {
		for _, in := range b.Ins {
			if in.Dst != nowhere && !is[in.Dst] {
				is[in.Dst] = true
				out = append(out, in.Dst)
			}
		}
	}
	return out
}

// end is what is known at a block's end, by what is known at its begin now.
func (s *spread) end(b int) sight {
	out := sightFrom(s.begins[b])
	for _, in := range s.blocks[b].Ins {
		if in.Dst != nowhere {
			out.since[in.Dst] = out.gives(in)
		}
	}
	return out
}

// goThrough goes through a block for the first time, and on to those that follow.
func (s *spread) goThrough(b int) {
	s.ends[b] = s.end(b)
	// Nobody was told yet what was known ahead of that.
	s.lost[b] = nil
	for _, n := range s.next[b] {
		s.come(n, s.ends[b])
	}
}

// come comes to a block by another way, on which something is known.
func (s *spread) come(b int, by sight) {
	if s.begins[b] == nil {
		s.begins[b] = by.all()
		return
	}
	for _, r := range s.given {
		if v, ok := s.begins[b][r]; ok && by.of(r) != (fact{v, true}) {
			s.lose(b, r)
		}
	}
}

// lose takes a register away from those that are known at a block's begin.
func (s *spread) lose(b, r int) {
	if _, ok := s.begins[b][r]; !ok {
		return
	}
	delete(s.begins[b], r)
	if len(s.lost[b]) == 0 {
		s.again = append(s.again, b)
	}
	s.lost[b] = append(s.lost[b], r)
}

// goAgain goes through a block that lost some registers, and takes from those that follow what is not known at its end any more.
func (s *spread) goAgain(b int) {
	was, now := s.ends[b], s.end(b)
	less := lessAtEnd(was, now, s.lost[b])
	s.ends[b], s.lost[b] = now, nil
	for _, n := range s.next[b] {
		for _, r := range less {
			s.lose(n, r)
		}
	}
}

// lessAtEnd are the registers that were known at a block's end, and are not any more, as some were lost at its begin.
func lessAtEnd(was, now sight, lost []int) []int {
	var out []int
	for _, r := range lost {
		if _, ok := now.since[r]; !ok {
			out = append(out, r)
		}
	}
	for r, f := range was.since {
		if f.known && !now.since[r].known {
			out = append(out, r)
		}
	}
	return out
}
