package wicket_test

import (
	"fmt"
	"math"
	"testing"

	"wicket/api"
)

// shrunk is what Shrink tells, and the frame that it leaves.
func shrunk(frame []byte, n uint64) (told int, left []byte) {
	if n > uint64(len(frame)) {
		return 1, frame
	}
	return 0, frame[n:]
}

// TestP7Shrink: with less than the frame's length, with all of it, with more.
func TestP7Shrink(t *testing.T) {
	for _, n := range []int{0, 1, 2, 7, 31, 32, 33, 63, 64, 65, 66, 1000, math.MaxInt32, -1, -64, math.MinInt32} {
		f := letIn(t, code(shrink(n), exit()))
		plain := letIn(t, code(shrink(n), out(2)))
		for length := range api.MaxFrame + 1 {
			frame := counted(length)
			told, left := shrunk(frame, uint64(int64(n)))
			what := fmt.Sprintf("Shrink of %d bytes by %d", length, n)
			wantRun(t, f, frame, told, left, what)
			wantRun(t, plain, frame, 2, left, what)
		}
	}
}

// TestP7ShrinkByNumbers: by what the frame tells, numbers of all sizes too.
func TestP7ShrinkByNumbers(t *testing.T) {
	f := letIn(t, code(mov(0, 2), tested(8, code(ins(api.Load8, 1, 1, 0, 0), call(api.Shrink))), exit()))
	for _, n := range append(sizes(), 8, 11, 12, 13) {
		frame := append(words(n), 1, 2, 3, 4)
		told, left := shrunk(frame, n)
		wantRun(t, f, frame, told, left, fmt.Sprintf("Shrink of 12 bytes by %d", n))
	}
	wantRun(t, f, counted(7), 2, counted(7), "no Shrink")
}

// TestP7ShrinkTwice: each goes by the frame as it is then.
func TestP7ShrinkTwice(t *testing.T) {
	for _, n := range []int{0, 1, 3, 5, 64} {
		for _, m := range []int{0, 1, 3, 5, 64} {
			f := letIn(t, code(shrink(n), cp(4, 0), shrink(m), ins(api.Mul+api.Imm, 0, 0, 0, 2), ins(api.Or, 0, 4, 0, 0), exit()))
			for length := range 12 {
				first, left := shrunk(counted(length), uint64(n))
				second, left := shrunk(left, uint64(m))
				wantRun(t, f, counted(length), 2*second+first, left, fmt.Sprintf("Shrink of %d bytes by %d, then %d", length, n, m))
			}
		}
	}
}

// TestP7BehindShrink: First and Last tell of the frame as it is then, and
// what is read and written lies there.
func TestP7BehindShrink(t *testing.T) {
	moved := code(load(4, 1, 3), ins(api.Store1, 1, 4, 0, 0))
	length := code(cp(4, 2), ins(api.Sub, 4, 1, 0, 0), ins(api.Store1, 1, 4, 1, 0))
	for _, n := range []int{0, 1, 5, 60, 64, -1} {
		f := letIn(t, code(shrink(n), again(), tested(4, code(moved, length)), out(1)))
		for size := range api.MaxFrame + 1 {
			_, left := shrunk(counted(size), uint64(int64(n)))
			if len(left) >= 4 {
				left = with(with(left, 0, left[3:4]), 1, []byte{byte(len(left))})
			}
			wantRun(t, f, counted(size), 1, left, fmt.Sprintf("behind a Shrink of %d bytes by %d", size, n))
		}
	}
}

// TestP7KeptBehindShrink: numbers and stack places in registers 4 to 6, and
// what stands in the stack.
func TestP7KeptBehindShrink(t *testing.T) {
	puts := code(mov(4, 41), mov(5, -42), cp(6, 7), add(6, -9), ins(api.Store1, 6, 4, 0, 0))
	leaves := code(ins(api.Store1, 1, 4, 0, 0), ins(api.Store1, 1, 5, 1, 0), load(4, 6, 0), ins(api.Store1, 1, 4, 2, 0), load(4, 7, -9), ins(api.Store1, 1, 4, 3, 0), cp(5, 7), ins(api.Sub, 5, 6, 0, 0), ins(api.Store1, 1, 5, 4, 0))
	for _, n := range []int{0, 1, 3, -1, 100} {
		f := letIn(t, code(puts, shrink(n), again(), tested(5, leaves), out(1)))
		frame := counted(12)
		_, left := shrunk(frame, uint64(int64(n)))
		wantRun(t, f, frame, 1, with(left, 0, []byte{41, 256 - 42, 41, 41, 9}), fmt.Sprintf("kept behind a Shrink by %d", n))
	}
}

// TestP7WrittenAheadOfShrink: what was written there and is not taken away
// stays.
func TestP7WrittenAheadOfShrink(t *testing.T) {
	writes := code(mov(4, 9), ins(api.Store1, 1, 4, 0, 0), ins(api.Store1, 1, 4, 2, 0), ins(api.Store1, 1, 4, 5, 0))
	for n := range 9 {
		f := letIn(t, code(tested(6, code(writes, shrink(n))), out(1)))
		frame := []byte{9, 2, 9, 4, 5, 9, 7, 8}
		wantRun(t, f, []byte{1, 2, 3, 4, 5, 6, 7, 8}, 1, frame[n:], fmt.Sprintf("written ahead of a Shrink by %d", n))
	}
}

// TestP7ShrinkOnOneWay: only where it is gone through.
func TestP7ShrinkOnOneWay(t *testing.T) {
	f := letIn(t, code(tested(2, code(load(4, 1, 0), ins(api.Jne+api.Imm, 4, 0, 2, 7), shrink(2))), out(1)))
	wantRun(t, f, []byte{7, 1, 2}, 1, []byte{2}, "on that way")
	wantRun(t, f, []byte{8, 1, 2}, 1, []byte{8, 1, 2}, "on the other")
	wantRun(t, f, []byte{7}, 1, []byte{7}, "on neither")
}
