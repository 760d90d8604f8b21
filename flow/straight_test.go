package flow_test

import (
	"testing"

	"mandrel/notation"
	"mandrel/vcode"
)

// FL3: Trim, Thread, Join.

// before is code, and what is made of it.
type before struct {
	name       string
	code, want string
}

func holdMade(t *testing.T, maker string, l []before) {
	t.Helper()
	for _, c := range l {
		t.Run(c.name, func(t *testing.T) { wantMade(t, maker, lines(c.code), lines(c.want)) })
	}
}

func TestTrim(t *testing.T) {
	holdMade(t, "Trim", []before{
		{"one block", "block 0 depth 3; r1 = const 5; return", "block 0 depth 3; r1 = const 5; return"},
		{"all can be reached", "block 0 depth 0; branch r0 -> 2 1; block 1 depth 1; jump -> 0; block 2 depth 0; return", "block 0 depth 0; branch r0 -> 2 1; block 1 depth 1; jump -> 0; block 2 depth 0; return"},
		{"one between others", "block 0 depth 0; jump -> 2; block 1 depth 5; jump -> 2; block 2 depth 1; return", "block 0 depth 0; jump -> 1; block 1 depth 1; return"},
		{"at the end", "block 0 depth 0; return; block 1 depth 0; jump -> 0; block 2 depth 0; unreachable", "block 0 depth 0; return"},
		{"between others and at the end; the order of the numbers, not of the ways", `
			block 0 depth 0; table r0 -> 6 4 2 6
			block 1 depth 9; r1 = const 1; jump -> 2
			block 2 depth 2; r1 = const 2; return
			block 3 depth 9; branch r0 -> 1 3
			block 4 depth 4; r1 = const 4; branch r1 -> 2 4
			block 5 depth 9; jump -> 5
			block 6 depth 6; call r0 7; jump -> 0
			block 7 depth 9; return`, `
			block 0 depth 0; table r0 -> 3 2 1 3
			block 1 depth 2; r1 = const 2; return
			block 2 depth 4; r1 = const 4; branch r1 -> 1 2
			block 3 depth 6; call r0 7; jump -> 0`},
		{"neither threaded nor joined", "block 0 depth 0; jump -> 3; block 1 depth 0; return; block 2 depth 0; return; block 3 depth 1; jump -> 4; block 4 depth 1; branch r0 -> 3 3", "block 0 depth 0; jump -> 1; block 1 depth 1; jump -> 2; block 2 depth 1; branch r0 -> 1 1"},
	})
}

func TestThread(t *testing.T) {
	holdMade(t, "Thread", []before{
		{"one block", "block 0 depth 3; return", "block 0 depth 3; return"},
		{"one jump", "block 0 depth 0; branch r0 -> 1 2; block 1 depth 4; jump -> 2; block 2 depth 0; return", "block 0 depth 0; jump -> 2; block 1 depth 4; jump -> 2; block 2 depth 0; return"},
		{"a jump behind something is no jump alone", "block 0 depth 0; branch r0 -> 1 2; block 1 depth 0; r1 = const 1; jump -> 2; block 2 depth 0; return", "block 0 depth 0; branch r0 -> 1 2; block 1 depth 0; r1 = const 1; jump -> 2; block 2 depth 0; return"},
		{"several jumps, one behind the other, whatever their numbers", `
			block 0 depth 0; table r0 -> 4 2 1 3 5
			block 1 depth 1; jump -> 3
			block 2 depth 2; jump -> 1
			block 3 depth 3; jump -> 5
			block 4 depth 4; jump -> 2
			block 5 depth 5; return`, `
			block 0 depth 0; table r0 -> 5 5 5 5 5
			block 1 depth 1; jump -> 5
			block 2 depth 2; jump -> 5
			block 3 depth 3; jump -> 5
			block 4 depth 4; jump -> 5
			block 5 depth 5; return`},
		{"a branch whose ways are the same when both are told so", "block 0 depth 2; r1 = const 3; branch r1 -> 1 2; block 1 depth 0; jump -> 3; block 2 depth 0; jump -> 3; block 3 depth 0; return", "block 0 depth 2; r1 = const 3; jump -> 3; block 1 depth 0; jump -> 3; block 2 depth 0; jump -> 3; block 3 depth 0; return"},
		{"a branch whose ways are the same as they are", "block 0 depth 0; branch r0 -> 1 1; block 1 depth 0; r1 = const 1; branch r0 -> 0 0", "block 0 depth 0; jump -> 1; block 1 depth 0; r1 = const 1; jump -> 0"},
		{"a branch to itself twice", "block 0 depth 0; branch r0 -> 0 0", "block 0 depth 0; jump -> 0"},
		{"what is a jump only behind that is not gone by", "block 0 depth 0; branch r0 -> 1 3; block 1 depth 0; branch r0 -> 2 3; block 2 depth 0; jump -> 3; block 3 depth 0; return", "block 0 depth 0; branch r0 -> 1 3; block 1 depth 0; jump -> 3; block 2 depth 0; jump -> 3; block 3 depth 0; return"},
		{"a table stays one", "block 0 depth 0; table r0 -> 1; block 1 depth 0; jump -> 2; block 2 depth 0; table r0 -> 1 1", "block 0 depth 0; table r0 -> 2; block 1 depth 0; jump -> 2; block 2 depth 0; table r0 -> 2 2"},
		{"a table of one way is no jump alone", "block 0 depth 0; branch r0 -> 1 2; block 1 depth 0; table r0 -> 2; block 2 depth 0; return", "block 0 depth 0; branch r0 -> 1 2; block 1 depth 0; table r0 -> 2; block 2 depth 0; return"},
		{"block 0 is one jump alone", "block 0 depth 0; jump -> 1; block 1 depth 1; r1 = call r0 0; branch r1 -> 0 2; block 2 depth 0; return", "block 0 depth 0; jump -> 1; block 1 depth 1; r1 = call r0 0; branch r1 -> 1 2; block 2 depth 0; return"},
		{"a jump to itself", "block 0 depth 0; branch r0 -> 1 2; block 1 depth 1; jump -> 1; block 2 depth 0; return", "block 0 depth 0; branch r0 -> 1 2; block 1 depth 1; jump -> 1; block 2 depth 0; return"},
		{"block 0 a jump to itself", "block 0 depth 0; jump -> 0", "block 0 depth 0; jump -> 0"},
		{"both ways to a jump to itself", "block 0 depth 0; branch r0 -> 1 1; block 1 depth 1; jump -> 1", "block 0 depth 0; jump -> 1; block 1 depth 1; jump -> 1"},
		{"a ring", "block 0 depth 0; table r0 -> 1 2 3 4; block 1 depth 1; jump -> 2; block 2 depth 2; jump -> 3; block 3 depth 3; jump -> 1; block 4 depth 0; return", "block 0 depth 0; table r0 -> 1 2 3 4; block 1 depth 1; jump -> 2; block 2 depth 2; jump -> 3; block 3 depth 3; jump -> 1; block 4 depth 0; return"},
		{"a ring of block 0 and all others", "block 0 depth 0; jump -> 2; block 1 depth 0; jump -> 0; block 2 depth 0; jump -> 1", "block 0 depth 0; jump -> 2; block 1 depth 0; jump -> 0; block 2 depth 0; jump -> 1"},
		{"jumps that lead into a ring never end, either", "block 0 depth 0; branch r0 -> 1 2; block 1 depth 0; jump -> 2; block 2 depth 0; jump -> 3; block 3 depth 0; jump -> 4; block 4 depth 0; jump -> 3", "block 0 depth 0; branch r0 -> 1 2; block 1 depth 0; jump -> 2; block 2 depth 0; jump -> 3; block 3 depth 0; jump -> 4; block 4 depth 0; jump -> 3"},
		{"a loop that does something is no ring", "block 0 depth 0; jump -> 1; block 1 depth 1; jump -> 2; block 2 depth 1; call 1; jump -> 1", "block 0 depth 0; jump -> 2; block 1 depth 1; jump -> 2; block 2 depth 1; call 1; jump -> 2"},
		{"blocks that can't be reached stay, and are told so, too", "block 0 depth 0; return; block 1 depth 0; branch r0 -> 2 3; block 2 depth 0; jump -> 3; block 3 depth 0; jump -> 4; block 4 depth 0; unreachable", "block 0 depth 0; return; block 1 depth 0; jump -> 4; block 2 depth 0; jump -> 4; block 3 depth 0; jump -> 4; block 4 depth 0; unreachable"},
	})
}

func TestJoin(t *testing.T) {
	holdMade(t, "Join", []before{
		{"one block", "block 0 depth 3; r1 = const 5; return", "block 0 depth 3; r1 = const 5; return"},
		{"two", "block 0 depth 0; r1 = const 1; jump -> 1; block 1 depth 0; r2 = const 2; return", "block 0 depth 0; r1 = const 1; r2 = const 2; return"},
		{"the Depth of the one that takes stays", "block 0 depth 2; jump -> 1; block 1 depth 5; jump -> 2; block 2 depth 1; return", "block 0 depth 2; return"},
		{"several, one behind the other, whatever their numbers", `
			block 0 depth 1; r1 = const 10; jump -> 3
			block 1 depth 2; r1 = const 11; branch r1 -> 0 4
			block 2 depth 3; r1 = const 12; jump -> 1
			block 3 depth 4; r1 = const 13; jump -> 2
			block 4 depth 5; r1 = const 14; table r1 -> 0 4`, `
			block 0 depth 1; r1 = const 10; r1 = const 13; r1 = const 12; r1 = const 11; branch r1 -> 0 1
			block 1 depth 5; r1 = const 14; table r1 -> 0 1`},
		{"where ways of a branch meet", `
			block 0 depth 0; branch r0 -> 1 2
			block 1 depth 1; r1 = const 1; jump -> 3
			block 2 depth 2; r1 = const 2; jump -> 3
			block 3 depth 3; return`, `
			block 0 depth 0; branch r0 -> 1 2
			block 1 depth 1; r1 = const 1; jump -> 3
			block 2 depth 2; r1 = const 2; jump -> 3
			block 3 depth 3; return`},
		{"one to which another one leads, too, by one way of a branch", `
			block 0 depth 0; jump -> 1
			block 1 depth 1; r1 = call r0 0; branch r1 -> 1 2
			block 2 depth 0; return`, `
			block 0 depth 0; jump -> 1
			block 1 depth 1; r1 = call r0 0; branch r1 -> 1 2
			block 2 depth 0; return`},
		{"one to which a branch leads twice is not joined, as that is no jump", `
			block 0 depth 0; branch r0 -> 1 1
			block 1 depth 0; return`, `
			block 0 depth 0; branch r0 -> 1 1
			block 1 depth 0; return`},
		{"one to which a jump leads, and a table twice", `
			block 0 depth 0; table r0 -> 1 2 2
			block 1 depth 0; jump -> 2
			block 2 depth 0; return`, `
			block 0 depth 0; table r0 -> 1 2 2
			block 1 depth 0; jump -> 2
			block 2 depth 0; return`},
		{"a table of one way is no jump", "block 0 depth 0; table r0 -> 1; block 1 depth 0; return", "block 0 depth 0; table r0 -> 1; block 1 depth 0; return"},
		{"what can't be reached does not count", `
			block 0 depth 0; r1 = const 1; jump -> 3
			block 1 depth 0; jump -> 3
			block 2 depth 0; branch r0 -> 3 2
			block 3 depth 0; r2 = const 2; jump -> 5
			block 4 depth 0; jump -> 5
			block 5 depth 0; return`, "block 0 depth 0; r1 = const 1; r2 = const 2; return"},
		{"a block that jumps to itself", "block 0 depth 0; branch r0 -> 1 2; block 1 depth 1; r1 = const 1; jump -> 1; block 2 depth 1; jump -> 2", "block 0 depth 0; branch r0 -> 1 2; block 1 depth 1; r1 = const 1; jump -> 1; block 2 depth 1; jump -> 2"},
		{"block 0 jumps to itself", "block 0 depth 0; r1 = const 1; jump -> 0", "block 0 depth 0; r1 = const 1; jump -> 0"},
		{"a jump to block 0, alone", "block 0 depth 0; branch r0 -> 1 2; block 1 depth 1; r1 = const 1; jump -> 0; block 2 depth 0; return", "block 0 depth 0; branch r0 -> 1 2; block 1 depth 1; r1 = const 1; jump -> 0; block 2 depth 0; return"},
		{"a ring with block 0", "block 0 depth 1; r1 = const 1; jump -> 2; block 1 depth 2; r1 = const 2; jump -> 0; block 2 depth 3; r1 = const 3; jump -> 1", "block 0 depth 1; r1 = const 1; r1 = const 3; r1 = const 2; jump -> 0"},
		{"a ring without it", "block 0 depth 0; jump -> 2; block 1 depth 1; r1 = const 1; jump -> 2; block 2 depth 2; r1 = const 2; jump -> 1", "block 0 depth 0; jump -> 1; block 1 depth 2; r1 = const 2; r1 = const 1; jump -> 1"},
		{"several times several", `
			block 0 depth 0; branch r0 -> 1 4
			block 1 depth 1; r1 = const 1; jump -> 5
			block 2 depth 2; r1 = const 2; return
			block 3 depth 3; r1 = const 3; return
			block 4 depth 4; r1 = const 4; jump -> 3
			block 5 depth 5; r1 = const 5; jump -> 2`, `
			block 0 depth 0; branch r0 -> 1 2
			block 1 depth 1; r1 = const 1; r1 = const 5; r1 = const 2; return
			block 2 depth 4; r1 = const 4; r1 = const 3; return`},
		{"jumps alone are joined, not gone by", `
			block 0 depth 0; branch r0 -> 1 2
			block 1 depth 1; jump -> 3
			block 2 depth 2; return
			block 3 depth 3; jump -> 4
			block 4 depth 4; branch r0 -> 2 2`, `
			block 0 depth 0; branch r0 -> 1 2
			block 1 depth 1; branch r0 -> 2 2
			block 2 depth 2; return`},
	})
}

// TestAllElseStays: Regs, Params and Result, and every field of an instruction, for each of the three.
func TestAllElseStays(t *testing.T) {
	const ahead = "r4 = const -5; r5 = i64.load r4 +8; i32.store8 r4 r5 +4294967295; r1 = global.get 1; global.set r1 0; r1 = call r0 r1 3; call 1; r2 = call_indirect r3 r0 r1 0; r3 = select r3 r2 r4; r0 = memory.grow r0; "
	for maker := range makers {
		c := notation.Virtual("regs 6 params 2 result; block 0 depth 64; " + ahead + "return r5")
		wantMade(t, maker, c, vcode.Clone(c))
	}
	wantMade(t, "Join",
		notation.Virtual("regs 6 params 6 result; block 0 depth 64; "+ahead+"jump -> 1; block 1 depth 0; "+ahead+"return r4"),
		notation.Virtual("regs 6 params 6 result; block 0 depth 64; "+ahead+ahead+"return r4"))
}

// wantSecond3 holds FL3 of code against the second reading.
func wantSecond3(t *testing.T, c vcode.Code) {
	t.Helper()
	wantMade(t, "Trim", c, secondTrim(c))
	wantMade(t, "Thread", c, secondThread(c))
	wantMade(t, "Join", c, secondJoin(c))
	if t.Failed() {
		t.FailNow()
	}
}

func TestEveryMade(t *testing.T) {
	for many := 1; many <= 3; many++ {
		everyCode(many, func(c vcode.Code) { wantSecond3(t, c) })
	}
}

func TestMadeStraight(t *testing.T) {
	k := makerOf(41)
	changed := map[string]int{}
	for range 10_000 {
		c := shaped(k)
		wantSecond3(t, c)
		for maker, call := range makers {
			if got := must[vcode.Code](t, maker)(call(c)); !vcode.Same(got, c) {
				changed[maker]++
			}
		}
	}
	for maker := range makers {
		if changed[maker] < 1000 {
			t.Errorf("%s changed only %d codes", maker, changed[maker])
		}
	}
}

// TestNothingLeft: once more, each of the three makes the same of what it made; but of Thread that is so only where no branch became a jump alone.
func TestNothingLeft(t *testing.T) {
	k := makerOf(7)
	for range 5000 {
		c := shaped(k)
		for _, maker := range []string{"Trim", "Join"} {
			once := must[vcode.Code](t, maker)(makers[maker](c))
			wantMade(t, maker, once, vcode.Clone(once))
		}
		// Blocks are at most nine: with each call one branch at least becomes a jump, or nothing is left.
		for range 12 {
			c = must[vcode.Code](t, "Thread")(makers["Thread"](c))
		}
		wantMade(t, "Thread", c, vcode.Clone(c))
	}
}
