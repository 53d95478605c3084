package wicket_test

import (
	"bytes"
	"fmt"
	"math"
	"slices"
	"testing"

	"wicket/api"
)

type span struct{ from, to int }

func (s span) holds(n int) bool { return n >= s.from && n <= s.to }

// row is a row of the document's table.
type row struct {
	first, last        int
	imm                bool
	dst, src, off, num span
	jumps              bool
}

func rows() []row {
	none := span{}
	anyOff := span{math.MinInt16, math.MaxInt16}
	ahead := span{0, math.MaxInt16}
	anyNum := span{math.MinInt32, math.MaxInt32}
	return []row{
		{first: 1, last: 11, dst: span{0, 6}, src: span{0, 7}, off: none, num: none},
		{first: 1, last: 11, imm: true, dst: span{0, 6}, src: none, off: none, num: anyNum},
		{first: 20, last: 23, dst: span{0, 6}, src: span{0, 7}, off: anyOff, num: none},
		{first: 24, last: 27, dst: span{0, 7}, src: span{0, 7}, off: anyOff, num: none},
		{first: 30, last: 30, dst: none, src: none, off: ahead, num: none, jumps: true},
		{first: 31, last: 36, dst: span{0, 7}, src: span{0, 7}, off: ahead, num: none, jumps: true},
		{first: 31, last: 36, imm: true, dst: span{0, 7}, src: none, off: ahead, num: anyNum, jumps: true},
		{first: 40, last: 40, dst: none, src: none, off: none, num: span{1, 3}},
		{first: 41, last: 41, dst: none, src: none, off: none, num: none},
	}
}

// rowOf finds the row of an operation's byte.
func rowOf(op int) (row, bool) {
	for _, r := range rows() {
		if r.imm == (op >= 128) && op&127 >= r.first && op&127 <= r.last {
			return r, true
		}
	}
	return row{}, false
}

func offEdges() []int {
	return []int{math.MinInt16, math.MinInt16 + 1, -256, -255, -2, -1, 0, 1, 2, 3, 127, 128, 255, 256, 257, 512, math.MaxInt16 - 1, math.MaxInt16}
}

func numEdges() []int {
	list := []int{math.MinInt32, math.MinInt32 + 1, -2, -1, 0, 1, 2, 3, 4, 5, 127, 128, 255, math.MaxInt32 - 1, math.MaxInt32}
	for _, high := range []int{1 << 8, 1 << 16, 1 << 24} {
		list = append(list, high, high+1, high+2, high+3, -high)
	}
	return list
}

// hold sets one instruction at the place 1 of four, so that it may leave out
// one at most, and asks for what its row says.
func hold(t *testing.T, op, dst, src, off, num int) {
	t.Helper()
	c := code(set(), ins(op, dst, src, off, num), set(), exit())
	what := fmt.Sprintf("operation %d, dst %d, src %d, OFF %d, NUM %d", op, dst, src, off, num)
	r, is := rowOf(op)
	if !is || !r.dst.holds(dst) || !r.src.holds(src) || !r.off.holds(off) || !r.num.holds(num) || r.jumps && off > 1 {
		wantError(t, c, api.ErrCode, 1, what)
	} else {
		wantShape(t, c, what)
	}
}

func TestP4Registers(t *testing.T) {
	for op := range 256 {
		r, _ := rowOf(op)
		for both := range 256 {
			hold(t, op, both&15, both>>4, 0, r.num.from)
		}
	}
}

func TestP4Off(t *testing.T) {
	for op := range 256 {
		r, _ := rowOf(op)
		for _, off := range offEdges() {
			hold(t, op, 0, 0, off, r.num.from)
			hold(t, op, r.dst.to, r.src.to, off, r.num.to)
		}
	}
}

func TestP4Num(t *testing.T) {
	for op := range 256 {
		r, _ := rowOf(op)
		for _, num := range numEdges() {
			hold(t, op, 0, 0, 0, num)
			hold(t, op, r.dst.to, r.src.to, 0, num)
		}
	}
}

// TestP4Constants ties the table's bytes to the names that package api gives.
func TestP4Constants(t *testing.T) {
	works := []int{api.Mov, api.Add, api.Sub, api.Mul, api.Div, api.Mod, api.And, api.Or, api.Xor, api.Shl, api.Shr}
	comparisons := []int{api.Jeq, api.Jne, api.Jgt, api.Jge, api.Jlt, api.Jle}
	all := slices.Concat(works, comparisons, []int{api.Load1, api.Load2, api.Load4, api.Load8, api.Store1, api.Store2, api.Store4, api.Store8, api.Jump, api.Exit})
	for _, op := range all {
		wantShape(t, code(set(), ins(op, 0, 0, 0, 0), exit()), "an operation")
	}
	for _, op := range slices.Concat(works, comparisons) {
		wantShape(t, code(set(), ins(op+api.Imm, 0, 0, 0, 0), exit()), "an operation with Imm")
	}
	for _, num := range []int{api.Shrink, api.First, api.Last} {
		wantShape(t, code(set(), ins(api.Call, 0, 0, 0, num), exit()), "a call")
	}
}

// TestP4Behind sends each jump from each place to the last instruction, and
// one too far.
func TestP4Behind(t *testing.T) {
	jumps := []int{api.Jump}
	for op := api.Jeq; op <= api.Jle; op++ {
		jumps = append(jumps, op, op+api.Imm)
	}
	for _, op := range jumps {
		for _, n := range []int{2, 3, 10, api.MaxCode} {
			for at := range n - 1 {
				c := plain(n)
				toLast := n - 2 - at
				copy(c[8*at:], ins(op, 0, 0, toLast, 0))
				wantShape(t, c, "to the last instruction")
				copy(c[8*at:], ins(op, 0, 0, toLast+1, 0))
				wantError(t, c, api.ErrCode, at, "just behind the last instruction")
				copy(c[8*at:], ins(op, 0, 0, math.MaxInt16, 0))
				wantError(t, c, api.ErrCode, at, "far behind the last instruction")
			}
		}
	}
}

// TestP4OffOfPlaces: an OFF that is no jump's may be more than the code has.
func TestP4OffOfPlaces(t *testing.T) {
	for op := api.Load1; op <= api.Store8; op++ {
		wantShape(t, code(set(), ins(op, 0, 0, math.MaxInt16, 0), exit()), "OFF of a place")
	}
}

func TestP4LastIsExit(t *testing.T) {
	for op := range 256 {
		r, is := rowOf(op)
		last := ins(op, 0, 0, 0, r.num.from)
		for _, n := range []int{1, 2, 5, api.MaxCode} {
			c := code(bytes.Repeat(set(), n-1), last)
			if is && op == api.Exit {
				wantShape(t, c, "an Exit at the end")
			} else {
				wantError(t, c, api.ErrCode, n-1, "no Exit at the end")
			}
		}
	}
	wantError(t, code(set(), exit(), set()), api.ErrCode, 2, "an Exit ahead of the end")
}

func TestP4FirstIsTold(t *testing.T) {
	wrongs := [][]byte{
		ins(0, 0, 0, 0, 0),
		ins(255, 15, 15, -1, -1),
		ins(api.Mov, 7, 0, 0, 0),
		ins(api.Exit, 0, 0, 0, 1),
		ins(api.Call, 0, 0, 0, 4),
		ins(api.Jump, 0, 0, -1, 0),
		ins(api.Jump, 0, 0, 60, 0),
		ins(api.Jne, 0, 0, math.MaxInt16, 0),
	}
	for _, one := range wrongs {
		for _, other := range wrongs {
			for first := range 9 {
				for second := first + 1; second < 10; second++ {
					c := plain(10)
					copy(c[8*first:], one)
					copy(c[8*second:], other)
					wantError(t, c, api.ErrCode, first, "two wrong instructions")
				}
			}
		}
		wantError(t, code(set(), one, set()), api.ErrCode, 1, "a wrong instruction and no Exit at the end")
	}
}

// TestP4NotReached: every instruction is held to the table, also one that no
// way leads to.
func TestP4NotReached(t *testing.T) {
	wrong := ins(api.Mov, 8, 0, 0, 0)
	wantError(t, code(set(), ins(api.Jump, 0, 0, 1, 0), wrong, exit()), api.ErrCode, 2, "jumped over")
	wantError(t, code(set(), exit(), wrong, exit()), api.ErrCode, 2, "behind an Exit")
}

// TestP4BeforeP5 sets code that is not safe ahead of a wrong instruction.
func TestP4BeforeP5(t *testing.T) {
	wrong := ins(api.Add, 0, 0, 1, 0)
	wantError(t, code(exit(), wrong, exit()), api.ErrCode, 1, "an Exit with nothing in register 0")
	wantError(t, code(set(), ins(api.Load8, 0, 1, -1, 0), wrong, exit()), api.ErrCode, 2, "a Load ahead of the frame")
}

// TestP4Examples are those of the document that tell of the shape.
func TestP4Examples(t *testing.T) {
	two := []byte{129, 0, 0, 0, 2, 0, 0, 0}
	end := []byte{41, 0, 0, 0, 0, 0, 0, 0}
	wantLoaded(t, code(two, end), "register 0 is 2; Exit")
	wantError(t, two, api.ErrCode, 0, "no Exit")
	wantError(t, code([]byte{129, 7, 0, 0, 2, 0, 0, 0}, end), api.ErrCode, 0, "dst 7")
	wantError(t, code([]byte{30, 0, 1, 0, 0, 0, 0, 0}, end), api.ErrCode, 0, "a Jump behind the last instruction")
	wantError(t, two[:7], api.ErrLength, 0, "seven bytes")
	for _, c := range plainExamples() {
		wantLoaded(t, c, "plain")
	}
}

// plainExamples are the document's examples of plain code that look at the frame.
func plainExamples() [][]byte {
	return [][]byte{
		code(ins(api.Mov+api.Imm, 0, 0, 0, 0), ins(api.Mov, 3, 1, 0, 0), ins(api.Add+api.Imm, 3, 0, 0, 1), ins(api.Jgt, 3, 2, 1, 0), ins(api.Load1, 4, 1, 0, 0), exit()),
		code(ins(api.Call, 0, 0, 0, api.First), ins(api.Mov, 3, 0, 0, 0), ins(api.Call, 0, 0, 0, api.Last), ins(api.Mov, 4, 0, 0, 0), ins(api.Add+api.Imm, 3, 0, 0, 1), ins(api.Jgt, 3, 4, 2, 0), ins(api.Mov+api.Imm, 1, 0, 0, 1), ins(api.Call, 0, 0, 0, api.Shrink), ins(api.Mov+api.Imm, 0, 0, 0, 2), exit()),
	}
}
