package wicket_test

import (
	"fmt"
	"math"
	"testing"

	"wicket/api"
)

// want5 asks for plain code to be let in, or for code that faults to be refused.
func want5(t *testing.T, plain bool, c []byte, what string) {
	t.Helper()
	if plain {
		wantPlain(t, c, what)
	} else {
		wantHarm(t, c, what)
	}
}

// TestP5FrameEdges reads and writes around both ends of what a test has shown.
func TestP5FrameEdges(t *testing.T) {
	for _, n := range []int{-1000, -1, 0, 1, 2, 7, 8, 14, 63, api.MaxFrame} {
		for log := range 4 {
			size := 1 << log
			for _, off := range []int{-1000, -size, -1, 0, 1, n - size - 1, n - size, n - size + 1, n - 1, n, n + 1, api.MaxFrame} {
				inside := off >= 0 && off+size <= n
				what := fmt.Sprintf("%d bytes at %d of %d", size, off, n)
				want5(t, inside, code(tested(n, ins(api.Load1+log, 4, 1, off, 0)), out(1)), "Load of "+what)
				want5(t, inside, code(mov(4, 7), tested(n, ins(api.Store1+log, 1, 4, off, 0)), out(1)), "Store of "+what)
				want5(t, inside, code(tested(n, ins(api.Load1+log, 4, 3, off-n, 0)), out(1)), "Load by register 3 of "+what)
				want5(t, inside, code(mov(4, 7), tested(n, code(add(1, -20), ins(api.Store1+log, 1, 4, off+20, 0))), out(1)), "Store below of "+what)
			}
		}
	}
}

// TestP5BeyondAnyFrame: a test for more than any frame has is never passed,
// so that code behind it is safe; in the document's words it is plain.
func TestP5BeyondAnyFrame(t *testing.T) {
	for _, n := range []int{65, 66, 100, api.MaxPlace} {
		for _, off := range []int{0, 63, 64, n - 8} {
			wantPlain(t, code(tested(n, ins(api.Load8, 4, 1, min(off, n-8), 0)), out(1)), "behind a test that is never passed")
		}
	}
	wantPlain(t, code(tested(900, tested(80, ins(api.Load8, 4, 1, 892, 0))), out(1)), "behind two such tests")
}

func TestP5StackEdges(t *testing.T) {
	for log := range 4 {
		size := 1 << log
		for off := -2 * api.StackSize; off <= 9; off++ {
			inside := off >= -api.StackSize && off+size <= 0
			what := fmt.Sprintf("%d bytes at %d of the stack", size, off)
			want5(t, inside, code(ins(api.Load1+log, 4, 7, off, 0), out(1)), "Load of "+what)
			want5(t, inside, code(mov(4, -1), ins(api.Store1+log, 7, 4, off, 0), out(1)), "Store of "+what)
			want5(t, inside, code(cp(5, 7), add(5, 100), ins(api.Load1+log, 4, 5, off-100, 0), out(1)), "Load from above of "+what)
			want5(t, inside, code(cp(5, 7), add(5, -1000), mov(4, 1), ins(api.Store1+log, 5, 4, off+1000, 0), out(1)), "Store from below of "+what)
		}
	}
	for _, off := range []int{math.MinInt16, math.MinInt16 + 1, math.MaxInt16} {
		wantHarm(t, code(load(4, 7, off), out(1)), "far from the stack")
		wantHarm(t, code(tested(64, load(4, 1, off)), out(1)), "far from the frame")
	}
}

// TestP5MaxPlace steps from each place to MaxPlace on both sides, and beyond.
func TestP5MaxPlace(t *testing.T) {
	for _, base := range []int{1, 7} {
		for _, k := range []int{0, 1, -1, 600, -1000, 1000} {
			for _, to := range []int{-1000, -1001, -1002, 1000, 1001, 1002, 0, -5000, 5000, math.MinInt32/2 + 1, math.MaxInt32 / 2} {
				start := code(cp(4, base), add(4, k))
				inside := to >= -1000 && to <= 1000
				what := fmt.Sprintf("from %d to %d of register %d", k, to, base)
				want5(t, inside, code(start, add(4, to-k), out(1)), "Add "+what)
				want5(t, inside, code(start, ins(api.Sub+api.Imm, 4, 0, 0, k-to), out(1)), "Sub "+what)
				if !inside {
					wantHarm(t, code(start, mov(5, to-k), ins(api.Add, 4, 5, 0, 0), out(1)), "Add of a register "+what)
					wantHarm(t, code(start, mov(5, to-k), ins(api.Add, 5, 4, 0, 0), out(1)), "Add to a register "+what)
					wantHarm(t, code(start, mov(5, k-to), ins(api.Sub, 4, 5, 0, 0), out(1)), "Sub of a register "+what)
				}
			}
		}
	}
}

// TestP5MaxPlaceOfTheEnd: how far the end lies from the first place hangs on
// the frame.
func TestP5MaxPlaceOfTheEnd(t *testing.T) {
	for _, n := range []int{937, 1000, 1001, -1001, math.MinInt32, math.MaxInt32} {
		wantHarm(t, code(add(2, n), out(1)), "the end moved too far")
		wantHarm(t, code(call(api.Last), ins(api.Sub+api.Imm, 0, 0, 0, -n), out(1)), "what Last told moved too far")
	}
	for _, n := range []int{936, 0, -1, -1000} {
		holdTo(t, code(add(2, n), out(1)), allFrames(), "the end moved")
	}
}

// TestP5NumbersFar puts numbers to places that are too far only for some
// frames, or by their sign, or by what was left out when they were worked out.
func TestP5NumbersFar(t *testing.T) {
	read := func(op, n int) []byte { return ins(op, 4, 1, 0, n) }
	for name, number := range map[string][]byte{
		"two bytes":                read(api.Load2, 0),
		"four bytes":               read(api.Load4, 0),
		"eight bytes":              read(api.Load8, 0),
		"a byte times 4":           code(load(4, 1, 0), ins(api.Mul+api.Imm, 4, 0, 0, 4)),
		"a byte shifted":           code(load(4, 1, 0), ins(api.Shl+api.Imm, 4, 0, 0, 2+64)),
		"a byte shifted out":       code(load(4, 1, 0), ins(api.Shl+api.Imm, 4, 0, 0, 63)),
		"less than nothing":        code(mov(4, 0), ins(api.Sub+api.Imm, 4, 0, 0, 1001)),
		"a half of all numbers":    code(mov(4, -1), ins(api.Shr+api.Imm, 4, 0, 0, 1)),
		"only the highest bit":     code(mov(4, 1), ins(api.Shl+api.Imm, 4, 0, 0, 63)),
		"-1 divided":               code(mov(4, -1), ins(api.Div+api.Imm, 4, 0, 0, 2)),
		"the least less one":       code(mov(4, -1), ins(api.Shl+api.Imm, 4, 0, 0, 63), add(4, -1)),
		"a byte, and 1024 with it": code(load(4, 1, 0), ins(api.Or+api.Imm, 4, 0, 0, 1024)),
		"a byte's xor":             code(load(4, 1, 0), ins(api.Xor+api.Imm, 4, 0, 0, -1024)),
		"all but the low bits":     code(read(api.Load8, 0), ins(api.And+api.Imm, 4, 0, 0, -256)),
		"low bits, too many":       code(read(api.Load8, 0), ins(api.And+api.Imm, 4, 0, 0, 1023)),
		"a remainder":              code(read(api.Load8, 0), ins(api.Mod+api.Imm, 4, 0, 0, 2000)),
		"a remainder by 0":         code(read(api.Load8, 0), ins(api.Mod+api.Imm, 4, 0, 0, 0)),
	} {
		for _, base := range []int{1, 7} {
			c := code(tested(8, code(number, cp(5, base), ins(api.Add, 5, 4, 0, 0))), out(1))
			wantHarm(t, c, "a place moved by "+name)
		}
	}
}

// TestP5ByNumbers reads through places that were moved by numbers which are
// not known: whatever is let in of it must be safe.
func TestP5ByNumbers(t *testing.T) {
	for _, mask := range []int{0, 1, 3, 7, 8, 15, 31, 32, -1} {
		for _, size := range []int{1, 2, 4, 8} {
			op := api.Load1 + map[int]int{1: 0, 2: 1, 4: 2, 8: 3}[size]
			move := code(load(4, 1, 0), ins(api.And+api.Imm, 4, 0, 0, mask))
			for _, n := range []int{8, 9, 15, 16, 39, 40} {
				frame := code(move, cp(5, 1), ins(api.Add, 5, 4, 0, 0), ins(op, 6, 5, 0, 0))
				holdTo(t, code(tested(n, frame), out(1)), allFrames(), "the frame by a number")
			}
			stack := code(move, cp(5, 7), ins(api.Sub, 5, 4, 0, 0), ins(op, 6, 5, -1, 0))
			holdTo(t, code(tested(1, stack), out(1)), allFrames(), "the stack by a number")
		}
	}
}

func TestP5Verdicts(t *testing.T) {
	for _, n := range []int{0, 1, 2, 3} {
		wantPlain(t, out(n), "a verdict")
		wantPlain(t, code(onOneWay(true, out(n)), out(3-n)), "two verdicts")
		wantPlain(t, code(mov(0, n), onOneWay(false, mov(0, 3-n)), exit()), "one verdict of two")
	}
	for _, n := range []int{4, 5, 255, 256, -1, -2, math.MinInt32, math.MaxInt32} {
		wantHarm(t, out(n), "no verdict")
		wantHarm(t, code(onOneWay(true, out(n)), out(0)), "no verdict on one way")
		wantHarm(t, code(mov(0, 2), onOneWay(false, mov(0, n)), exit()), "no verdict where ways meet")
	}
	for name, put := range map[string][]byte{
		"the first place": cp(0, 1),
		"the end":         cp(0, 2),
		"a stack place":   cp(0, 7),
		"First":           call(api.First),
		"Last":            call(api.Last),
		"a byte":          load(0, 7, -1),
		"nothing":         nil,
	} {
		c := code(put, exit())
		if name == "a byte" {
			holdTo(t, c, allFrames(), "the verdict 0, from the stack")
			c = code(mov(0, 1), tested(1, load(0, 1, 0)), exit())
		}
		wantHarm(t, c, "the verdict is "+name)
		wantHarm(t, code(onOneWay(false, c), out(1)), "the verdict on one way is "+name)
	}
}

// TestP5WorkedOutVerdicts: a verdict that was worked out is not plain, but
// must be one if it is let in.
func TestP5WorkedOutVerdicts(t *testing.T) {
	for op := api.Add; op <= api.Shr; op++ {
		for _, n := range []int{0, 1, 2, 3, 4, 5, 8, 62, 63, 64, 65, 127, -1, -4, -256} {
			x := ins(op+api.Imm, 0, 0, 0, n)
			holdTo(t, code(mov(0, 0), tested(1, code(load(0, 1, 0), x)), exit()), allFrames(), fmt.Sprintf("a byte worked out: %v", x))
			for _, m := range []int{0, 1, 3, 4, 7, -1, math.MinInt32} {
				holdTo(t, code(mov(0, m), x, exit()), allFrames(), fmt.Sprintf("%d worked out: %v", m, x))
				holdTo(t, code(mov(0, m), mov(4, n), ins(op, 0, 4, 0, 0), exit()), allFrames(), fmt.Sprintf("%d worked out: %d, %d", m, op, n))
			}
		}
	}
}
