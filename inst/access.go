package inst

import (
	"slices"

	"mandrel/api"
	"mandrel/mem"
	"mandrel/ops"
)

// firstStore is the first store's number: those of all loads are below it.
const firstStore = 0x36

// Load does a load of a memory.
func Load(s *mem.Memory, op byte, at uint64, offset uint32) (uint64, api.Trap, error) {
	size, signed, err := ops.Bytes(op)
	if err != nil || op >= firstStore {
		return 0, api.Well, api.ErrArg
	}
	v, ok := s.Load(low32(at), uint64(offset), size)
	if !ok {
		return 0, api.Bounds, nil
	}
	if signed {
		v = withSign(op, v, size)
	}
	return v, api.Well, nil
}

// Store does a store into a memory.
func Store(s *mem.Memory, op byte, at uint64, offset uint32, v uint64) (api.Trap, error) {
	size, _, err := ops.Bytes(op)
	if err != nil || op < firstStore {
		return api.Well, api.ErrArg
	}
	if !s.Store(low32(at), uint64(offset), size, v) {
		return api.Bounds, nil
	}
	return api.Well, nil
}

// Pick is the function that an indirect call of a type finds by a value.
func Pick(m api.Module, s *State, typ int64, at uint64) (int, api.Trap, error) {
	want, ok := item(m.Types, typ)
	if !ok || s == nil {
		return 0, api.Well, api.ErrArg
	}
	f, ok := item(s.Table, int64(low32(at)))
	if !ok {
		return 0, api.Element, nil
	}
	has, ok := typeOf(m, f)
	if !ok {
		return 0, api.Element, nil
	}
	if has.Result != want.Result || !slices.Equal(has.Params, want.Params) {
		return 0, api.Mismatch, nil
	}
	return f, api.Well, nil
}

// withSign is a number of so many bytes with its sign, as a value of the kind that a load gives.
func withSign(op byte, v uint64, size int) uint64 {
	unused := 64 - 8*size
	v = uint64(int64(v<<unused) >> unused)
	// No error: every load takes and gives something.
	if t, _ := ops.Sign(op); t.Result == api.I32 {
		return low32(v)
	}
	return v
}
