package spec

import "mandrel/api"

// run is what goes on: a call from outside, and all calls within it. Calls and blocks stand in lists of its own and not in one another's Go calls, so that however many of them there are, there is room.
type run struct {
	*Machine
	values []uint64 // of each call its locals, and behind them its stack
	calls  []call   // the innermost one last
	scopes []scope  // of all calls, the innermost one last
	fuel   int
	used   int
}

// call is a function that is being done.
type call struct {
	locals int // where the first one stands among the values
	body   int // which of the scopes is its body
}

// scope is instructions with a label: a body, or those of a block, a loop, an if.
type scope struct {
	list    []api.Instr
	next    int // the number of the one that is done next
	beneath int // how many values are left, when it ends, beside its result
	result  api.Kind
	loop    bool
}

// callOutermost does a function whose arguments are all values there are; at its end what it gives is.
func (r *run) callOutermost(f int) api.Trap {
	if trap := r.enter(f); trap != api.Well {
		return trap
	}
	for len(r.scopes) > 0 {
		innermost := len(r.scopes) - 1
		s := &r.scopes[innermost]
		if s.next == len(s.list) {
			r.leave(innermost)
			continue
		}
		if r.used == r.fuel {
			return api.Fuel
		}
		r.used++
		s.next++
		if trap := r.step(&s.list[s.next-1]); trap != api.Well {
			return trap
		}
	}
	return api.Well
}

// enter begins a call: its arguments, the last values, become its first locals where they stand.
func (r *run) enter(f int) api.Trap {
	if len(r.calls) == api.MaxDepth {
		return api.Depth
	}
	fn := r.module.Funcs[f]
	t := r.module.Types[fn.Type]
	first := len(r.values) - len(t.Params)
	r.values = append(r.values, make([]uint64, len(fn.Locals))...)
	r.calls = append(r.calls, call{locals: first, body: len(r.scopes)})
	// The locals are not left beneath, so that they go with the body.
	r.scopes = append(r.scopes, scope{list: fn.Body, beneath: first, result: t.Result})
	return api.Well
}

// open begins one of the lists of a block, a loop or an if.
func (r *run) open(in *api.Instr, list []api.Instr, loop bool) {
	r.scopes = append(r.scopes, scope{list: list, beneath: len(r.values), result: in.Result, loop: loop})
}

// leave goes on behind a scope, and so leaves all within it; with the scope of a body the call has ended.
func (r *run) leave(at int) {
	s := r.scopes[at]
	r.keep(s.beneath, s.result)
	r.scopes = r.scopes[:at]
	if r.innermostCall().body == at {
		r.calls = r.calls[:len(r.calls)-1]
	}
}

// branch goes to the label of a number.
func (r *run) branch(n int64) {
	at := len(r.scopes) - 1 - int(n)
	s := &r.scopes[at]
	if !s.loop {
		r.leave(at)
		return
	}
	r.keep(s.beneath, api.None)
	r.scopes = r.scopes[:at+1]
	s.next = 0
}

// keep leaves the lowest values, and the last one, if it is of a kind.
func (r *run) keep(lowest int, k api.Kind) {
	var kept []uint64
	if k != api.None {
		kept = r.values[len(r.values)-1:]
	}
	r.values = append(r.values[:lowest], kept...)
}

func (r *run) innermostCall() call { return r.calls[len(r.calls)-1] }
