package fold

// moved tells of registers that have their values by moves of a block which register each was moved from, of those that still have its value.
type moved map[int]int

// first is the register from which on a register's value was moved; itself, if it was not.
func (m moved) first(r int) int {
	for {
		from, ok := m[r]
		if !ok {
			return r
		}
		r = from
	}
}

// tell tells registers that are taken by the first ones.
func (m moved) tell(l []int) {
	for i, r := range l {
		l[i] = m.first(r)
	}
}

// move: a register has what another one has.
func (m moved) move(r, from int) {
	// It has that already: nobody who has it from r has it from elsewhere now.
	if m.first(r) == m.first(from) {
		return
	}
	m.anew(r)
	m[r] = from
}

// anew: a register has another value than it had. Those that were moved from it have theirs from where it had that.
func (m moved) anew(r int) {
	to := m.movedFrom(r)
	from, ok := m[r]
	delete(m, r)
	for _, other := range to {
		if ok {
			m[other] = from
		} else {
			delete(m, other)
		}
	}
}

// movedFrom are the registers that were moved from one.
func (m moved) movedFrom(r int) []int {
	var out []int
	for to, from := range m {
		if from == r {
			out = append(out, to)
		}
	}
	return out
}
