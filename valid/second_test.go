package valid_test

import (
	"math/rand"
	"slices"
	"strings"
	"testing"

	"mandrel/api"
	"mandrel/ops"
	"mandrel/valid"
)

// second reads the chapter once more, by other means: it knows no value of any kind, but tries each kind where one may be.
type second struct {
	m      api.Module
	result api.Kind
	locals []api.Kind
	most   int
}

// readAgain is what Height should answer of function 0, which has a type, of a module whose kinds are right.
func readAgain(m api.Module) (int, bool) {
	t := m.Types[m.Funcs[0].Type]
	s := &second{m: m, result: t.Result, locals: append(slices.Clone(t.Params), m.Funcs[0].Locals...)}
	ok := s.runs(m.Funcs[0].Body, []api.Kind{t.Result}, t.Result, 0, true)
	return s.most, ok
}

// runs says whether a list may run, with labels (the innermost one first), on so many values; counted, if that is of weight for how many there are.
func (s *second) runs(l []api.Instr, labels []api.Kind, result api.Kind, beneath int, counted bool) bool {
	return s.goesOn(l, labels, result, nil, beneath, counted, false)
}

// goesOn says whether the rest of a list may run, with a stack of its own; free: what is not there may be taken.
func (s *second) goesOn(l []api.Instr, labels []api.Kind, result api.Kind, stack []api.Kind, beneath int, counted, free bool) bool {
	if len(l) == 0 {
		want := kinds(result)
		return slices.Equal(stack, want) || free && len(stack) == 0
	}
	for _, sign := range s.signs(l[0], labels, beneath+len(stack), counted && !free) {
		left, ok := less(stack, sign.Params, free)
		if !ok {
			continue
		}
		left = append(left, kinds(sign.Result)...)
		if counted && !free {
			s.most = max(s.most, beneath+len(left))
		}
		stops := strings.Contains(" unreachable br br_table return ", " "+ops.Name(l[0].Op)+" ")
		if stops {
			left = nil
		}
		if s.goesOn(l[1:], labels, result, left, beneath, counted, free || stops) {
			return true
		}
	}
	return false
}

// kinds is those of a result.
func kinds(k api.Kind) []api.Kind {
	if k == api.None {
		return nil
	}
	return []api.Kind{k}
}

// less is a stack without values at its top, new memory.
func less(stack, off []api.Kind, free bool) ([]api.Kind, bool) {
	n := min(len(stack), len(off))
	if n < len(off) && !free || !slices.Equal(stack[len(stack)-n:], off[len(off)-n:]) {
		return nil, false
	}
	return slices.Clone(stack[:len(stack)-n]), true
}

// takesGives is a sign; nothing is taken of None.
func takesGives(gives api.Kind, takes ...api.Kind) []api.Type {
	return []api.Type{{Params: slices.DeleteFunc(takes, func(k api.Kind) bool { return k == api.None }), Result: gives}}
}

// signs are all that an instruction may take and give, none if it may not be there. Beneath it stand so many values.
func (s *second) signs(in api.Instr, labels []api.Kind, beneath int, counted bool) []api.Type {
	at := func(l []api.Kind) api.Kind {
		if in.N < 0 || in.N >= int64(len(l)) {
			return 99 // a kind that no value has
		}
		return l[in.N]
	}
	switch name := ops.Name(in.Op); name {
	case "nop", "unreachable":
		return takesGives(api.None)
	case "drop":
		return append(takesGives(api.None, api.I32), takesGives(api.None, api.I64)...)
	case "select":
		return append(takesGives(api.I32, api.I32, api.I32, api.I32), takesGives(api.I64, api.I64, api.I64, api.I32)...)
	case "return":
		return takesGives(api.None, s.result)
	case "local.get", "local.set", "local.tee":
		return notNinetyNine(at(s.locals), map[string][]api.Type{
			"local.get": takesGives(at(s.locals)),
			"local.set": takesGives(api.None, at(s.locals)),
			"local.tee": takesGives(at(s.locals), at(s.locals)),
		}[name])
	case "br", "br_if":
		return notNinetyNine(at(labels), map[string][]api.Type{
			"br":    takesGives(api.None, at(labels)),
			"br_if": takesGives(at(labels), at(labels), api.I32),
		}[name])
	case "block", "loop", "if":
		return s.blockSigns(in, name, labels, beneath, counted)
	}
	return s.moduleSigns(in, labels)
}

func notNinetyNine(k api.Kind, l []api.Type) []api.Type {
	if k == 99 {
		return nil
	}
	return l
}

func (s *second) blockSigns(in api.Instr, name string, labels []api.Kind, beneath int, counted bool) []api.Type {
	hands := in.Result
	var takes []api.Kind
	lists := [][]api.Instr{in.Body}
	switch name {
	case "loop":
		hands = api.None
	case "if":
		takes = []api.Kind{api.I32}
		lists = append(lists, in.Else)
		beneath--
	}
	for _, l := range lists {
		if !s.runs(l, append([]api.Kind{hands}, labels...), in.Result, beneath, counted) {
			return nil
		}
	}
	return takesGives(in.Result, takes...)
}

// moduleSigns are of what hangs on the module, or on the number alone.
func (s *second) moduleSigns(in api.Instr, labels []api.Kind) []api.Type {
	name := ops.Name(in.Op)
	noMemory := len(s.m.Memories) == 0 && (strings.Contains(name, ".load") || strings.Contains(name, ".store") || strings.HasPrefix(name, "memory"))
	size, _, _ := ops.Bytes(in.Op)
	switch {
	case name == "", noMemory, size > 0 && (in.Align > 3 || 1<<in.Align > size):
		return nil
	case name == "i32.const" && in.N != int64(int32(in.N)):
		return nil
	case name == "br_table":
		var hands []api.Kind
		for _, n := range in.Labels {
			if int(n) >= len(labels) {
				return nil
			}
			hands = append(hands, labels[n])
		}
		if hands = slices.Compact(hands); len(hands) != 1 {
			return nil
		}
		return takesGives(api.None, hands[0], api.I32)
	case strings.HasPrefix(name, "global"):
		if in.N < 0 || int(in.N) >= len(s.m.Globals) {
			return nil
		}
		g := s.m.Globals[in.N]
		if name == "global.get" {
			return takesGives(g.Kind)
		}
		if g.Mut {
			return takesGives(api.None, g.Kind)
		}
		return nil
	case name == "call":
		if in.N < 0 || int(in.N) >= len(s.m.Funcs) {
			return nil
		}
		return []api.Type{s.m.Types[s.m.Funcs[in.N].Type]}
	case name == "call_indirect":
		if in.N < 0 || int(in.N) >= len(s.m.Types) || len(s.m.Tables) == 0 {
			return nil
		}
		t := s.m.Types[in.N]
		return takesGives(t.Result, append(slices.Clone(t.Params), api.I32)...)
	}
	sign, _ := ops.Sign(in.Op)
	return []api.Type{sign}
}

// wantAsSecond holds a body against the second reading, and says whether it may run.
func wantAsSecond(t *testing.T, m api.Module) bool {
	t.Helper()
	most, ok := readAgain(m)
	want := api.ErrInvalid
	if ok {
		want = 0
	} else {
		most = 0
	}
	got, err := valid.Height(m, 0)
	if got != most || number(err) != want || number(valid.Body(m, 0)) != want {
		t.Fatalf("%s (type %d): %d, %v, want %d and the error %d", told(m.Funcs[0].Body), m.Funcs[0].Type, got, err, most, want)
	}
	return ok
}

// told is a body in notes, as far as these tell it.
func told(l []api.Instr) string {
	out := ""
	for _, in := range l {
		out += ops.Name(in.Op)
		switch form, _ := ops.Form(in.Op); form {
		case ops.Index, ops.Call:
			out += " #" + string(rune('0'+in.N))
		case ops.Table:
			for _, n := range in.Labels {
				out += " #" + string(rune('0'+n))
			}
		case ops.Block, ops.If:
			out += map[api.Kind]string{api.I32: " i32", api.I64: " i64"}[in.Result] + " ( " + told(in.Body) + ") else ( " + told(in.Else) + ")"
		}
		out += " "
	}
	return out
}

// TestSecondOfBodies: the second reading says of all bodies above what was said of them.
func TestSecondOfBodies(t *testing.T) {
	for _, b := range allBodies() {
		for _, text := range b.may {
			if !wantAsSecond(t, bench(b.typ, code(text))) {
				t.Errorf("%s: %s may run", b.name, text)
			}
		}
		for _, text := range b.not {
			if wantAsSecond(t, bench(b.typ, code(text))) {
				t.Errorf("%s: %s may not run", b.name, text)
			}
		}
	}
}

// letters are instructions, each one, of which bodies are made.
func letters() []string {
	return []string{
		"nop", "drop", "select", "i32.const 1", "i64.const 1", "i32.add", "i64.eqz", "i64.extend_i32_s", "br 0", "unreachable", "br_if 0",
		"return", "br_table 0 0 ;", "local.tee 1", "local.set 0", "call 4", "call_indirect 3", "call 2", "global.set 2", "i64.store 3",
		"block ( )", "block i32 ( i32.const 1 )", "block i32 ( br 0 )", "loop i64 ( i32.const 1 br_if 0 unreachable )", "if ( )", "if i64 ( i64.const 1 ) else ( br 1 )", "if i32 ( unreachable ) else ( i32.const 1 )",
		"block i64 ( i32.const 1 br 1 )", "block ( unreachable drop )",
	}
}

// each goes over all rows of just so many out of some.
func each(l [][]api.Instr, n int, do func(body []api.Instr)) {
	at := make([]int, n)
	for {
		var body []api.Instr
		for _, i := range at {
			body = append(body, l[i]...)
		}
		do(body)
		i := 0
		for i < n && at[i] == len(l)-1 {
			at[i] = 0
			i++
		}
		if i == n {
			return
		}
		at[i]++
	}
}

// TestAllShortBodies: all of up to three of the letters, and longer ones of the first of them.
func TestAllShortBodies(t *testing.T) {
	var l [][]api.Instr
	for _, text := range letters() {
		l = append(l, code(text))
	}
	may := 0
	hold := func(body []api.Instr) {
		for _, typ := range []uint32{typeNone, typeI, typeMixed} {
			if wantAsSecond(t, bench(typ, body)) {
				may++
			}
		}
	}
	for n := range 4 {
		each(l, n, hold)
	}
	each(l[1:11], 4, hold)
	each(l[1:8], 5, func(body []api.Instr) { hold(append(code("unreachable"), body...)) })
	if may < 1000 {
		t.Errorf("only %d of them may run", may)
	}
}

// maker makes bodies that mostly may run.
type maker struct {
	*rand.Rand
	s *second
}

// list is some instructions that leave what they should.
func (k maker) list(labels []api.Kind, result api.Kind, nest int) []api.Instr {
	var l []api.Instr
	var stack []api.Kind
	free := false
	for range k.Intn(9) {
		in := k.instr(labels, nest)
		signs := k.s.signs(in, labels, 0, false)
		fits := slices.IndexFunc(signs, func(t api.Type) bool {
			_, ok := less(stack, t.Params, free)
			return ok
		})
		if fits < 0 && k.Intn(40) > 0 {
			continue
		}
		l = append(l, in)
		if fits >= 0 {
			stack, _ = less(stack, signs[fits].Params, free)
			stack = append(stack, kinds(signs[fits].Result)...)
		}
		if in.Op == 0 || in.Op == 0x0c || in.Op == 0x0e || in.Op == 0x0f {
			stack, free = nil, true
		}
	}
	if slices.Equal(stack, kinds(result)) || len(stack) == 0 && free {
		return l
	}
	for range stack {
		l = append(l, api.Instr{Op: 0x1a})
	}
	if result != api.None {
		l = append(l, constOf(result))
	}
	return l
}

// instr is any, a block within not too many others.
func (k maker) instr(labels []api.Kind, nest int) api.Instr {
	label := int64(k.Intn(len(labels) + k.Intn(30)/29))
	switch k.Intn(12) {
	case 0, 1, 2:
		return constOf([]api.Kind{api.I32, api.I64}[k.Intn(2)])
	case 3, 4, 5:
		if nest > 0 {
			return k.block(labels, nest-1)
		}
	case 6:
		return api.Instr{Op: []byte{0x0c, 0x0d, 0x0d}[k.Intn(3)], N: label}
	case 7:
		return api.Instr{Op: 0x0e, Labels: []uint32{uint32(label), uint32(k.Intn(len(labels)))}[k.Intn(2):]}
	case 8:
		return api.Instr{Op: []byte{0x10, 0x11}[k.Intn(2)], N: int64(k.Intn(6))}
	case 9:
		return api.Instr{Op: byte(0x20 + k.Intn(5)), N: int64(k.Intn(5))}
	case 10:
		return api.Instr{Op: []byte{0x00, 0x01, 0x0f, 0x1a, 0x1a, 0x1b}[k.Intn(6)]}
	}
	op := byte(0x28 + k.Intn(0xae-0x28))
	if op == 0x41 || op == 0x42 {
		op = 0x6a
	}
	in := api.Instr{Op: op}
	if form, _ := ops.Form(op); form == ops.Address {
		in.Align = uint32(k.Intn(4))
	}
	return in
}

func (k maker) block(labels []api.Kind, nest int) api.Instr {
	in := api.Instr{Op: byte(2 + k.Intn(3)), Result: []api.Kind{api.None, api.I32, api.I64}[k.Intn(3)]}
	hands := in.Result
	if in.Op == 3 {
		hands = api.None
	}
	labels = append([]api.Kind{hands}, labels...)
	in.Body = k.list(labels, in.Result, nest)
	if in.Op == 4 {
		in.Else = k.list(labels, in.Result, nest)
	}
	return in
}

// made is a row of modules whose function 0 is made so; the same each time.
func made(seed int64, n int) []api.Module {
	k := maker{Rand: rand.New(rand.NewSource(seed))}
	var out []api.Module
	for range n {
		typ := uint32(k.Intn(5))
		m := bench(typ, nil)
		t := m.Types[typ]
		k.s = &second{m: m, result: t.Result, locals: append(slices.Clone(t.Params), m.Funcs[0].Locals...)}
		m.Funcs[0].Body = k.list([]api.Kind{t.Result}, t.Result, 4)
		out = append(out, m)
	}
	return out
}

// TestMadeBodies: long ones, with blocks in blocks; as they are, and with an instruction changed, left out, or there twice.
func TestMadeBodies(t *testing.T) {
	k := rand.New(rand.NewSource(2))
	may, not := 0, 0
	count := func(ok bool) {
		if ok {
			may++
		} else {
			not++
		}
	}
	for _, m := range made(1, 8000) {
		count(wantAsSecond(t, m))
		body := m.Funcs[0].Body
		for range 4 {
			m.Funcs[0].Body = changed(k, body)
			count(wantAsSecond(t, m))
		}
	}
	if may < 5000 || not < 5000 {
		t.Errorf("%d may run, %d may not: too few", may, not)
	}
}

// changed is a body with a change at one place, somewhere in it.
func changed(k *rand.Rand, l []api.Instr) []api.Instr {
	out := slices.Clone(l)
	if len(l) == 0 {
		return out
	}
	i := k.Intn(len(l))
	if in := &out[i]; in.Op >= 2 && in.Op <= 4 && k.Intn(4) > 0 {
		switch k.Intn(3) {
		case 0:
			in.Result = []api.Kind{api.None, api.I32, api.I64}[k.Intn(3)]
		case 1:
			in.Else = changed(k, in.Else)
		default:
			in.Body = changed(k, in.Body)
		}
		return out
	}
	switch k.Intn(5) {
	case 0:
		return slices.Delete(out, i, i+1)
	case 1:
		return slices.Insert(out, i, l[i])
	case 2:
		return slices.Insert(out, i, api.Instr{Op: []byte{0x00, 0x0f, 0x1a, 0x1b}[k.Intn(4)]})
	case 3:
		out[i].N += int64(k.Intn(3)) - 1
	default:
		out[i] = code(letters()[k.Intn(len(letters()))])[0]
	}
	return out
}
