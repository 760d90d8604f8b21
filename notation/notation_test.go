package notation_test

import (
	"reflect"
	"testing"

	"mandrel/api"
	"mandrel/notation"
)

func TestCode(t *testing.T) {
	nop := api.Instr{Op: 0x01}
	for text, want := range map[string][]api.Instr{
		"":                                      nil,
		" nop\n\tnop ":                          {nop, nop},
		"i32.const -7":                          {{Op: 0x41, N: -7}},
		"i64.const 7":                           {{Op: 0x42, N: 7}},
		"local.get 3":                           {{Op: 0x20, N: 3}},
		"br_if 1 nop":                           {{Op: 0x0d, N: 1}, nop},
		"i64.load 3":                            {{Op: 0x29, Align: 3}},
		"i64.load 3 +4":                         {{Op: 0x29, Align: 3, Offset: 4}},
		"i32.store8 0 +4294967295 nop":          {{Op: 0x3a, Offset: 1<<32 - 1}, nop},
		"i32.store8 0 nop":                      {{Op: 0x3a}, nop},
		"br_table 2 0 ; nop":                    {{Op: 0x0e, Labels: []uint32{2, 0}}, nop},
		"call_indirect 5":                       {{Op: 0x11, N: 5}},
		"memory.grow":                           {{Op: 0x40}},
		"block ( )":                             {{Op: 0x02}},
		"loop i64 ( nop ) nop":                  {{Op: 0x03, Result: api.I64, Body: []api.Instr{nop}}, nop},
		"if i32 ( nop ) else ( block ( nop ) )": {{Op: 0x04, Result: api.I32, Body: []api.Instr{nop}, Else: []api.Instr{{Op: 0x02, Body: []api.Instr{nop}}}}},
		"if ( nop ) nop":                        {{Op: 0x04, Body: []api.Instr{nop}}, nop},
	} {
		if got := notation.Code(text); !reflect.DeepEqual(got, want) {
			t.Errorf("%q: %v, want %v", text, got, want)
		}
	}
}

// TestWrongNotes: one that is wrong is told, and not read as another one.
func TestWrongNotes(t *testing.T) {
	for _, text := range []string{
		"no", "nop )", "(", "br", "br x", "i32.const 1.5", "i64.load", "i64.load 3 +", "i64.load 3 +x",
		"br_table 1", "block", "block (", "block i16 ( )", "block ( ) else ( )", "if ( ) else", "1",
	} {
		func() {
			defer func() {
				if recover() == nil {
					t.Errorf("%q is read", text)
				}
			}()
			notation.Code(text)
		}()
	}
}
