package wicket_test

import (
	"encoding/binary"
	"fmt"
	"math"
	"testing"

	"wicket/api"
	"wicket/wicket"
)

// words is a frame of numbers of eight bytes.
func words(list ...uint64) []byte {
	var frame []byte
	for _, n := range list {
		frame = binary.LittleEndian.AppendUint64(frame, n)
	}
	return frame
}

// sizes are numbers of all sizes.
func sizes() []uint64 {
	list := []uint64{0, 1, 2, 3, 5, 7, 10, 62, 63, 64, 65, 100, 1000, 0x123456789abcdef, 0xfedcba9876543210}
	for _, bits := range []int{7, 8, 15, 16, 31, 32, 33, 62, 63} {
		edge := uint64(1) << bits
		list = append(list, edge-1, edge, edge+1)
	}
	return append(list, math.MaxUint64-63, math.MaxUint64-1, math.MaxUint64)
}

// nums are such that NUM may have.
func nums() []int {
	return []int{0, 1, 2, 3, 7, 10, 31, 32, 33, 62, 63, 64, 65, 127, 128, 255, 256, 32767, 65536, math.MaxInt32 - 1, math.MaxInt32, -1, -2, -3, -10, -63, -64, -65, -128, -32769, math.MinInt32 + 1, math.MinInt32}
}

// onWords is a filter that reads two numbers into registers 4 and 5, does
// something, and leaves there what these registers hold then.
func onWords(t *testing.T, c []byte) *wicket.Filter {
	t.Helper()
	read := code(ins(api.Load8, 4, 1, 0, 0), ins(api.Load8, 5, 1, 8, 0))
	write := code(ins(api.Store8, 1, 4, 0, 0), ins(api.Store8, 1, 5, 8, 0))
	return letIn(t, code(tested(16, code(read, c, write)), out(1)))
}

// TestP7NumbersByHand: results that were worked out by hand.
func TestP7NumbersByHand(t *testing.T) {
	const all, high = uint64(math.MaxUint64), uint64(1) << 63
	for _, c := range []struct {
		op         int
		a, b, want uint64
	}{
		{api.Mov, 5, 7, 7}, {api.Mov, 0, all, all}, {api.Mov, all, high, high},
		{api.Add, 5, 7, 12}, {api.Add, all, 1, 0}, {api.Add, all, all, all - 1}, {api.Add, high, high, 0}, {api.Add, high - 1, 1, high},
		{api.Sub, 7, 5, 2}, {api.Sub, 5, 7, all - 1}, {api.Sub, 0, 1, all}, {api.Sub, 0, all, 1}, {api.Sub, high, 1, high - 1}, {api.Sub, 9, 9, 0},
		{api.Mul, 6, 7, 42}, {api.Mul, all, all, 1}, {api.Mul, 1 << 32, 1 << 32, 0}, {api.Mul, high, 3, high}, {api.Mul, all, 2, all - 1}, {api.Mul, 9, 0, 0},
		{api.Div, 100, 7, 14}, {api.Div, 6, 7, 0}, {api.Div, 7, 7, 1}, {api.Div, 5, 0, 0}, {api.Div, all, 0, 0}, {api.Div, 0, 0, 0}, {api.Div, all, 2, high - 1}, {api.Div, all, all, 1}, {api.Div, all - 1, all, 0}, {api.Div, high, all, 0},
		{api.Mod, 100, 7, 2}, {api.Mod, 6, 7, 6}, {api.Mod, 7, 7, 0}, {api.Mod, 5, 0, 5}, {api.Mod, all, 0, all}, {api.Mod, 0, 0, 0}, {api.Mod, all, 10, 5}, {api.Mod, all, high, high - 1}, {api.Mod, high, all, high}, {api.Mod, 3, 1, 0},
		{api.And, 12, 10, 8}, {api.And, all, high, high}, {api.And, high, high - 1, 0},
		{api.Or, 12, 10, 14}, {api.Or, high, 1, high + 1}, {api.Or, 0, 0, 0},
		{api.Xor, 12, 10, 6}, {api.Xor, all, 1, all - 1}, {api.Xor, high, high, 0},
		{api.Shl, 1, 63, high}, {api.Shl, 3, 63, high}, {api.Shl, 3, 64, 3}, {api.Shl, 3, 65, 6}, {api.Shl, 1, all, high}, {api.Shl, 5, 0, 5}, {api.Shl, 5, 1 << 32, 5}, {api.Shl, all, 1, all - 1},
		{api.Shr, high, 63, 1}, {api.Shr, all, 60, 15}, {api.Shr, 6, 64, 6}, {api.Shr, 6, 65, 3}, {api.Shr, high, all, 1}, {api.Shr, 5, 0, 5}, {api.Shr, all, 1, high - 1}, {api.Shr, 5, 1 << 32, 5},
	} {
		f := onWords(t, ins(c.op, 4, 5, 0, 0))
		wantRun(t, f, words(c.a, c.b), 1, words(c.want, c.b), fmt.Sprintf("operation %d of %d and %d", c.op, c.a, c.b))
		if num := int(int32(c.b)); uint64(num) == c.b {
			f = onWords(t, ins(c.op+api.Imm, 4, 0, 0, num))
			wantRun(t, f, words(c.a, 99), 1, words(c.want, 99), fmt.Sprintf("operation %d of %d and NUM %d", c.op, c.a, num))
		}
	}
}

// TestP7NumbersOfAllSizes goes through all pairs, by two registers and by one
// register twice.
func TestP7NumbersOfAllSizes(t *testing.T) {
	for op := api.Add; op <= api.Shr; op++ {
		two, turned, twice := onWords(t, ins(op, 4, 5, 0, 0)), onWords(t, ins(op, 5, 4, 0, 0)), onWords(t, ins(op, 4, 4, 0, 0))
		for _, a := range sizes() {
			for _, b := range sizes() {
				what := fmt.Sprintf("operation %d of %d and %d", op, a, b)
				wantRun(t, two, words(a, b), 1, words(workedOut(op, a, b), b), what)
				wantRun(t, turned, words(b, a), 1, words(b, workedOut(op, a, b)), what+", turned")
			}
			wantRun(t, twice, words(a, 3), 1, words(workedOut(op, a, a), 3), fmt.Sprintf("operation %d of %d twice", op, a))
		}
	}
}

// TestP7Num: NUM below 0 is its 64 bits with a sign.
func TestP7Num(t *testing.T) {
	for _, num := range nums() {
		f := onWords(t, mov(4, num))
		wantRun(t, f, words(1, 2), 1, words(uint64(int64(num)), 2), fmt.Sprintf("Mov of NUM %d", num))
		for op := api.Add; op <= api.Shr; op++ {
			f := onWords(t, ins(op+api.Imm, 4, 0, 0, num))
			for _, a := range sizes() {
				want := workedOut(op, a, uint64(int64(num)))
				wantRun(t, f, words(a, 3), 1, words(want, 3), fmt.Sprintf("operation %d of %d and NUM %d", op, a, num))
			}
		}
	}
}

// TestP7EachRegister works with each register that may hold a number as dst
// and as src, those too that tell the frame's places at first.
func TestP7EachRegister(t *testing.T) {
	for dst := range api.Registers - 1 {
		for src := range api.Registers - 1 {
			put := code(mov(dst, 40), mov(src, 3), ins(api.Sub, dst, src, 0, 0))
			kept := code(ins(api.Store8, 7, dst, -8, 0), ins(api.Store8, 7, src, -16, 0))
			left := code(ins(api.Load8, 4, 7, -8, 0), ins(api.Load8, 5, 7, -16, 0), ins(api.Store8, 1, 4, 0, 0), ins(api.Store8, 1, 5, 8, 0))
			want := words(37, 3)
			if dst == src {
				want = words(0, 0)
			}
			f := letIn(t, code(put, kept, again(), tested(16, left), out(1)))
			wantRun(t, f, words(8, 9), 1, want, fmt.Sprintf("Sub of registers %d and %d", dst, src))
		}
	}
}
