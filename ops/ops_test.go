package ops

import (
	"errors"
	"slices"
	"strings"
	"testing"

	"mandrel/api"
)

// row is an instruction as the chapters list it. sign tells the kinds that it takes, > and the one that it gives: i of I32, I of I64; empty: it has none. bytes is 0 of what is no load and no store.
type row struct {
	op     byte
	name   string
	form   int
	sign   string
	bytes  int
	signed bool
}

func rows() []row {
	return slices.Concat(moduleRows(), memoryRows(), numberRows())
}

func moduleRows() []row {
	return []row{
		{0x00, "unreachable", Plain, "", 0, false},
		{0x01, "nop", Plain, "", 0, false},
		{0x02, "block", Block, "", 0, false},
		{0x03, "loop", Block, "", 0, false},
		{0x04, "if", If, "", 0, false},
		{0x0c, "br", Index, "", 0, false},
		{0x0d, "br_if", Index, "", 0, false},
		{0x0e, "br_table", Table, "", 0, false},
		{0x0f, "return", Plain, "", 0, false},
		{0x10, "call", Index, "", 0, false},
		{0x11, "call_indirect", Call, "", 0, false},
		{0x1a, "drop", Plain, "", 0, false},
		{0x1b, "select", Plain, "", 0, false},
		{0x20, "local.get", Index, "", 0, false},
		{0x21, "local.set", Index, "", 0, false},
		{0x22, "local.tee", Index, "", 0, false},
		{0x23, "global.get", Index, "", 0, false},
		{0x24, "global.set", Index, "", 0, false},
	}
}

func memoryRows() []row {
	return []row{
		{0x28, "i32.load", Address, "i>i", 4, false},
		{0x29, "i64.load", Address, "i>I", 8, false},
		{0x2c, "i32.load8_s", Address, "i>i", 1, true},
		{0x2d, "i32.load8_u", Address, "i>i", 1, false},
		{0x2e, "i32.load16_s", Address, "i>i", 2, true},
		{0x2f, "i32.load16_u", Address, "i>i", 2, false},
		{0x30, "i64.load8_s", Address, "i>I", 1, true},
		{0x31, "i64.load8_u", Address, "i>I", 1, false},
		{0x32, "i64.load16_s", Address, "i>I", 2, true},
		{0x33, "i64.load16_u", Address, "i>I", 2, false},
		{0x34, "i64.load32_s", Address, "i>I", 4, true},
		{0x35, "i64.load32_u", Address, "i>I", 4, false},
		{0x36, "i32.store", Address, "ii>", 4, false},
		{0x37, "i64.store", Address, "iI>", 8, false},
		{0x3a, "i32.store8", Address, "ii>", 1, false},
		{0x3b, "i32.store16", Address, "ii>", 2, false},
		{0x3c, "i64.store8", Address, "iI>", 1, false},
		{0x3d, "i64.store16", Address, "iI>", 2, false},
		{0x3e, "i64.store32", Address, "iI>", 4, false},
		{0x3f, "memory.size", Memory, ">i", 0, false},
		{0x40, "memory.grow", Memory, "i>i", 0, false},
		{0x41, "i32.const", Const32, ">i", 0, false},
		{0x42, "i64.const", Const64, ">I", 0, false},
	}
}

// numberRows are those of layer 2, by both their numbers as chapter 2 lists them.
func numberRows() []row {
	var out []row
	for _, c := range []struct {
		name         string
		op32, op64   byte
		sign, sign64 string
	}{
		{"eqz", 0x45, 0x50, "i>i", "I>i"},
		{"eq", 0x46, 0x51, "ii>i", "II>i"}, {"ne", 0x47, 0x52, "ii>i", "II>i"},
		{"lt_s", 0x48, 0x53, "ii>i", "II>i"}, {"lt_u", 0x49, 0x54, "ii>i", "II>i"},
		{"gt_s", 0x4a, 0x55, "ii>i", "II>i"}, {"gt_u", 0x4b, 0x56, "ii>i", "II>i"},
		{"le_s", 0x4c, 0x57, "ii>i", "II>i"}, {"le_u", 0x4d, 0x58, "ii>i", "II>i"},
		{"ge_s", 0x4e, 0x59, "ii>i", "II>i"}, {"ge_u", 0x4f, 0x5a, "ii>i", "II>i"},
		{"clz", 0x67, 0x79, "i>i", "I>I"}, {"ctz", 0x68, 0x7a, "i>i", "I>I"}, {"popcnt", 0x69, 0x7b, "i>i", "I>I"},
		{"add", 0x6a, 0x7c, "ii>i", "II>I"}, {"sub", 0x6b, 0x7d, "ii>i", "II>I"}, {"mul", 0x6c, 0x7e, "ii>i", "II>I"},
		{"div_s", 0x6d, 0x7f, "ii>i", "II>I"}, {"div_u", 0x6e, 0x80, "ii>i", "II>I"},
		{"rem_s", 0x6f, 0x81, "ii>i", "II>I"}, {"rem_u", 0x70, 0x82, "ii>i", "II>I"},
		{"and", 0x71, 0x83, "ii>i", "II>I"}, {"or", 0x72, 0x84, "ii>i", "II>I"}, {"xor", 0x73, 0x85, "ii>i", "II>I"},
		{"shl", 0x74, 0x86, "ii>i", "II>I"}, {"shr_s", 0x75, 0x87, "ii>i", "II>I"}, {"shr_u", 0x76, 0x88, "ii>i", "II>I"},
		{"rotl", 0x77, 0x89, "ii>i", "II>I"}, {"rotr", 0x78, 0x8a, "ii>i", "II>I"},
	} {
		out = append(out,
			row{c.op32, "i32." + c.name, Plain, c.sign, 0, false},
			row{c.op64, "i64." + c.name, Plain, c.sign64, 0, false})
	}
	return append(out,
		row{0xa7, "i32.wrap_i64", Plain, "I>i", 0, false},
		row{0xac, "i64.extend_i32_s", Plain, "i>I", 0, false},
		row{0xad, "i64.extend_i32_u", Plain, "i>I", 0, false})
}

// byNumber has all 256 numbers; a row with an empty name is no instruction.
func byNumber(t *testing.T) [256]row {
	t.Helper()
	var out [256]row
	for _, r := range rows() {
		if out[r.op].name != "" {
			t.Fatalf("%#x is listed twice", r.op)
		}
		out[r.op] = r
	}
	return out
}

func floatNumbers() map[byte]int {
	out := map[byte]int{}
	for _, b := range []byte{0x2a, 0x2b, 0x38, 0x39, 0x43, 0x44} {
		out[b] = 1
	}
	for _, r := range [][2]int{{0x5b, 0x66}, {0x8b, 0xa6}, {0xa8, 0xab}, {0xae, 0xbf}} {
		for op := r[0]; op <= r[1]; op++ {
			out[byte(op)] = 1
		}
	}
	return out
}

func kinds(letters string) []api.Kind {
	var out []api.Kind
	for _, c := range letters {
		out = append(out, map[rune]api.Kind{'i': api.I32, 'I': api.I64}[c])
	}
	return out
}

func typeOf(sign string) api.Type {
	takes, gives, _ := strings.Cut(sign, ">")
	out := api.Type{Params: kinds(takes)}
	if gives != "" {
		out.Result = kinds(gives)[0]
	}
	return out
}

func wantErrArg(t *testing.T, what string, op byte, err error) {
	t.Helper()
	var got api.Errno
	if !errors.As(err, &got) || got != api.ErrArg {
		t.Errorf("%s(%#x): error %v, want ErrArg", what, op, err)
	}
}

// TestExamples: the chapter's.
func TestExamples(t *testing.T) {
	s, err := Sign(0x36)
	if !slices.Equal(s.Params, []api.Kind{api.I32, api.I32}) || s.Result != api.None || err != nil {
		t.Errorf("Sign(0x36): %v, %v", s, err)
	}
	if n, signed, err := Bytes(0x34); n != 4 || !signed || err != nil {
		t.Errorf("Bytes(0x34): %d, %t, %v", n, signed, err)
	}
}

// OP1.

func TestName(t *testing.T) {
	for op, r := range byNumber(t) {
		if got := Name(byte(op)); got != r.name {
			t.Errorf("Name(%#x): %q, want %q", op, got, r.name)
		}
	}
}

func TestOp(t *testing.T) {
	for _, r := range rows() {
		if op, err := Op(r.name); op != r.op || err != nil {
			t.Errorf("Op(%q): %#x, %v, want %#x", r.name, op, err, r.op)
		}
	}
}

// TestNameAndBack: the name of every number leads to it again, and that of no instruction to none.
func TestNameAndBack(t *testing.T) {
	seen := map[string]int{}
	for op := range 256 {
		name := Name(byte(op))
		if name == "" {
			continue
		}
		if seen[name]++; seen[name] > 1 {
			t.Errorf("%q is the name of two numbers", name)
		}
		if got, err := Op(name); got != byte(op) || err != nil {
			t.Errorf("Op(Name(%#x)): %#x, %v", op, got, err)
		}
	}
}

// nearly are names that differ a little of one.
func nearly(name string) []string {
	out := []string{
		" " + name, name + " ", "\t" + name, name + "\n", name + "\x00", name + ".", "." + name,
		"i" + name, name + "s", name + "_s", name + "8", name + name,
		name[1:], name[:len(name)-1],
		strings.ToUpper(name), strings.ToUpper(name[:1]) + name[1:], name[:len(name)-1] + strings.ToUpper(name[len(name)-1:]),
		strings.ReplaceAll(name, ".", " "), strings.ReplaceAll(name, ".", "_"), strings.ReplaceAll(name, ".", ""), strings.ReplaceAll(name, "_", "-"),
		strings.ReplaceAll(name, "i32", "f32"), strings.ReplaceAll(name, "i64", "f64"),
	}
	if _, rest, ok := strings.Cut(name, "."); ok {
		out = append(out, rest, "."+rest, "i16."+rest, "i32."+rest, "i64."+rest, "i128."+rest, "f32."+rest, "f64."+rest)
	}
	for i := 1; i < len(name); i++ {
		out = append(out, name[:i], name[i:], name[:i]+" "+name[i:], name[:i]+name[i+1:], name[:i]+name[i:i+1]+name[i:])
	}
	return out
}

// wrongNames are no instruction's: those of numbers with points, of WebAssembly's that are not listed, and others.
func wrongNames() []string {
	return []string{
		"", " ", ".", "_", "\x00", "\xff", "i32", "i64", "i32.", "i64.", "add", "const", "load", "wrap", "wrap_i64", "extend_s", "extend_u",
		"else", "end", "then", "func", "br_unless", "get_local", "set_local", "tee_local", "get_global", "set_global", "grow_memory", "current_memory",
		"i32.wrap", "i32.wrap/i64", "i64.extend_s/i32", "i64.extend_u/i32", "i64.extend_i32", "i64.wrap_i64", "i32.extend_i32_s",
		"i32.load32_s", "i32.load32_u", "i32.load8", "i64.load16", "i64.load32", "i32.store32", "i64.store64", "i32.store8_s",
		"f32.load", "f64.load", "f32.store", "f64.store", "f32.const", "f64.const", "f32.eq", "f64.ge", "f32.abs", "f64.copysign", "f32.add", "f64.div",
		"i32.trunc_f32_s", "i64.trunc_f64_u", "f32.convert_i32_s", "f64.promote_f32", "f32.demote_f64",
		"i32.reinterpret_f32", "i64.reinterpret_f64", "f32.reinterpret_i32", "f64.reinterpret_i64",
		"i32.extend8_s", "i64.extend32_s", "memory.copy", "memory.fill", "table.get", "ref.null", "select_t", strings.Repeat("i32.add", 10000),
	}
}

func TestOpOfWrongNames(t *testing.T) {
	right := map[string]int{}
	wrong := wrongNames()
	for _, r := range rows() {
		right[r.name] = 1
		wrong = append(wrong, nearly(r.name)...)
	}
	for _, name := range wrong {
		if right[name] == 1 {
			continue
		}
		op, err := Op(name)
		var got api.Errno
		if op != 0 || !errors.As(err, &got) || got != api.ErrArg {
			t.Errorf("Op(%.40q): %#x, %v, want 0 and ErrArg", name, op, err)
		}
	}
}

func TestFloat(t *testing.T) {
	want := floatNumbers()
	for op := range 256 {
		if got := Float(byte(op)); got != (want[byte(op)] == 1) {
			t.Errorf("Float(%#x): %t", op, got)
		}
	}
}

// TestFloatHasNoName: none is done here.
func TestFloatHasNoName(t *testing.T) {
	for op := range 256 {
		if Float(byte(op)) && Name(byte(op)) != "" {
			t.Errorf("%#x is of numbers with points, and named %q", op, Name(byte(op)))
		}
	}
}

// OP2.

// TestFormNumbers: the order that the rule tells.
func TestFormNumbers(t *testing.T) {
	for i, form := range []int{Plain, Const32, Const64, Index, Address, Memory, Block, If, Table, Call} {
		if form != i {
			t.Errorf("form %d is %d", i, form)
		}
	}
}

func TestForm(t *testing.T) {
	for i, r := range byNumber(t) {
		op := byte(i)
		got, err := Form(op)
		if r.name == "" {
			wantErrArg(t, "Form", op, err)
			if got != 0 {
				t.Errorf("Form(%#x): %d beside an error", op, got)
			}
			continue
		}
		if got != r.form || err != nil {
			t.Errorf("Form(%#x): %d, %v, want %d", op, got, err, r.form)
		}
	}
}

// OP3.

func TestSign(t *testing.T) {
	for i, r := range byNumber(t) {
		op := byte(i)
		got, err := Sign(op)
		if r.sign == "" {
			wantErrArg(t, "Sign", op, err)
			if len(got.Params) != 0 || got.Result != api.None {
				t.Errorf("Sign(%#x): %v beside an error", op, got)
			}
			continue
		}
		if want := typeOf(r.sign); !slices.Equal(got.Params, want.Params) || got.Result != want.Result || err != nil {
			t.Errorf("Sign(%#x): %v, %v, want %v", op, got, err, want)
		}
	}
}

// TestSignUpTo24: instructions or not, none of them has a sign.
func TestSignUpTo24(t *testing.T) {
	for op := byte(0); op <= 0x24; op++ {
		_, err := Sign(op)
		wantErrArg(t, "Sign", op, err)
	}
}

// TestSignIsNewMemory: what is done to an answer, or to its spare room, is seen in no other one.
func TestSignIsNewMemory(t *testing.T) {
	for _, r := range rows() {
		first, _ := Sign(r.op)
		second, _ := Sign(r.op)
		spoilt := first.Params[:cap(first.Params)]
		for i := range spoilt {
			spoilt[i] = 0x55
		}
		third, _ := Sign(r.op)
		if want := typeOf(r.sign).Params; !slices.Equal(second.Params, want) || !slices.Equal(third.Params, want) {
			t.Errorf("Sign(%#x) changed: %v, %v, want %v", r.op, second.Params, third.Params, want)
		}
	}
}

func TestBytes(t *testing.T) {
	for i, r := range byNumber(t) {
		op := byte(i)
		n, signed, err := Bytes(op)
		if r.bytes == 0 {
			wantErrArg(t, "Bytes", op, err)
			if n != 0 || signed {
				t.Errorf("Bytes(%#x): %d, %t beside an error", op, n, signed)
			}
			continue
		}
		if n != r.bytes || signed != r.signed || err != nil {
			t.Errorf("Bytes(%#x): %d, %t, %v, want %d, %t", op, n, signed, err, r.bytes, r.signed)
		}
	}
}
