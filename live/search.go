package live

import (
	"slices"

	"mandrel/vcode"
)

// search goes back from the blocks that take registers to all from which there is a way there. A block tells those ahead of it each register once, and many at a time, so that code of many blocks and registers takes no longer than it must.
type search struct {
	ahead   [][]int
	begins  []Set // of each block the registers that are needed at its begin, as far as they were found
	given   []Set // of each block those that its instructions give
	news    []Set // of each block those of begins that it did not tell yet
	waiting []int // the blocks that may have news, in their turn
	waits   []bool
}

// searchOf has found what blocks take themselves, without having told it.
func searchOf(c vcode.Code, ahead [][]int) search {
	many := len(c.Blocks)
	s := search{ahead: ahead, begins: make([]Set, many), given: make([]Set, many), news: make([]Set, many), waits: make([]bool, many)}
	// A block is mostly behind those that lead to it: beginning with the last one, most of them hear all at once.
	for b := many - 1; b >= 0; b-- {
		s.begins[b] = takenBy(c.Blocks[b], c.Regs)
		s.given[b] = givenBy(c.Blocks[b], c.Regs)
		s.news[b] = slices.Clone(s.begins[b])
		s.wait(b)
	}
	return s
}

// wait lets a block wait, if it doesn't yet.
func (s *search) wait(b int) {
	if !s.waits[b] {
		s.waits[b] = true
		s.waiting = append(s.waiting, b)
	}
}

func (s *search) run() {
	for len(s.waiting) > 0 {
		b := s.waiting[0]
		s.waiting = s.waiting[1:]
		s.waits[b] = false
		for i, w := range s.news[b] {
			// Mostly a few registers are news, if any.
			if w == 0 {
				continue
			}
			s.news[b][i] = 0
			for _, a := range s.ahead[b] {
				s.tell(a, i, w)
			}
		}
	}
}

// tell tells a block that registers are needed behind it: those of one number of a set. What it gives itself is not needed at its begin for that, and what is known already is no news.
func (s *search) tell(b, i int, w uint64) {
	w &^= s.given[b][i] | s.begins[b][i]
	if w == 0 {
		return
	}
	s.begins[b][i] |= w
	s.news[b][i] |= w
	s.wait(b)
}
