package wicket_test

import (
	"bytes"
	"fmt"
	"math"
	"testing"

	"wicket/api"
)

// number is what some bytes are, the low byte first.
func number(list []byte) uint64 {
	n := uint64(0)
	for i := len(list) - 1; i >= 0; i-- {
		n = 256*n + uint64(list[i])
	}
	return n
}

// with is a list with some bytes written over.
func with(list []byte, at int, part []byte) []byte {
	list = bytes.Clone(list)
	copy(list[at:], part)
	return list
}

// TestP7LoadFrame reads so many bytes at each place of the frame, and leaves
// what it read in the first eight.
func TestP7LoadFrame(t *testing.T) {
	write := ins(api.Store8, 1, 4, 0, 0)
	for log := range 4 {
		size := 1 << log
		for at := 0; at+size <= api.MaxFrame; at++ {
			length := max(8, at+size)
			f := letIn(t, code(mov(4, -1), tested(length, code(ins(api.Load1+log, 4, 1, at, 0), write)), out(1)))
			for _, frame := range [][]byte{counted(length), counted(api.MaxFrame), bytes.Repeat([]byte{255}, length), make([]byte, length)} {
				want := with(frame, 0, words(number(frame[at:at+size])))
				wantRun(t, f, frame, 1, want, fmt.Sprintf("Load of %d bytes at %d", size, at))
			}
			wantRun(t, f, counted(length-1), 1, counted(length-1), "a frame that is too short")
		}
	}
}

// TestP7StoreFrame writes so many low bytes at each place of the frame: no
// byte beside them changes.
func TestP7StoreFrame(t *testing.T) {
	for log := range 4 {
		size := 1 << log
		for at := 0; at+size <= api.MaxFrame; at++ {
			length := max(8, at+size)
			f := letIn(t, code(tested(length, code(ins(api.Load8, 4, 1, 0, 0), add(4, 7), ins(api.Store1+log, 1, 4, at, 0))), out(1)))
			for _, frame := range [][]byte{counted(length), counted(api.MaxFrame), bytes.Repeat([]byte{255}, length)} {
				part := words(number(frame[:8]) + 7)[:size]
				wantRun(t, f, frame, 1, with(frame, at, part), fmt.Sprintf("Store of %d bytes at %d", size, at))
			}
		}
	}
}

// TestP7Stack writes so many bytes at each place of the stack, and leaves the
// whole stack in the frame.
func TestP7Stack(t *testing.T) {
	for log := range 4 {
		size := 1 << log
		for at := 0; at+size <= api.StackSize; at++ {
			filled := code(mov(5, -2), ins(api.Store8, 7, 5, -32, 0), ins(api.Store8, 7, 5, -24, 0), ins(api.Store8, 7, 5, -16, 0), ins(api.Store8, 7, 5, -8, 0))
			written := code(ins(api.Load8, 4, 1, 0, 0), ins(api.Store1+log, 7, 4, at-api.StackSize, 0))
			f := letIn(t, code(tested(32, code(filled, written, stackToFrame())), out(1)))
			frame := counted(40)
			want := with(words(math.MaxUint64-1, math.MaxUint64-1, math.MaxUint64-1, math.MaxUint64-1), at, frame[:size])
			wantRun(t, f, frame, 1, with(frame, 0, want), fmt.Sprintf("Store of %d bytes at %d of the stack", size, at))
		}
	}
}

// stackToFrame copies the stack to the frame's first bytes.
func stackToFrame() []byte {
	var c []byte
	for at := 0; at < api.StackSize; at += 8 {
		c = append(c, code(ins(api.Load8, 6, 7, at-api.StackSize, 0), ins(api.Store8, 1, 6, at, 0))...)
	}
	return c
}

// frameToStack copies the frame's first bytes to the stack.
func frameToStack() []byte {
	var c []byte
	for at := 0; at < api.StackSize; at += 8 {
		c = append(c, code(ins(api.Load8, 6, 1, at, 0), ins(api.Store8, 7, 6, at-api.StackSize, 0))...)
	}
	return c
}

// TestP7LoadStack reads so many bytes at each place of the stack.
func TestP7LoadStack(t *testing.T) {
	for log := range 4 {
		size := 1 << log
		for at := 0; at+size <= api.StackSize; at++ {
			read := code(mov(4, -1), ins(api.Load1+log, 4, 7, at-api.StackSize, 0), ins(api.Store8, 1, 4, 0, 0))
			f := letIn(t, code(tested(32, code(frameToStack(), read)), out(1)))
			frame := counted(40)
			wantRun(t, f, frame, 1, with(frame, 0, words(number(frame[at:at+size]))), fmt.Sprintf("Load of %d bytes at %d of the stack", size, at))
		}
	}
}

// TestP7StackIsNewEachTime: it is 0 at the start of every Run.
func TestP7StackIsNewEachTime(t *testing.T) {
	f := letIn(t, code(tested(32, code(mov(4, -1), frameToStack())), out(1)))
	g := letIn(t, code(tested(32, stackToFrame()), out(2)))
	first := code(stackToFrame(), mov(4, -1), ins(api.Store8, 7, 4, -32, 0), ins(api.Store8, 7, 4, -24, 0), ins(api.Store8, 7, 4, -16, 0), ins(api.Store8, 7, 4, -8, 0))
	h := letIn(t, code(tested(32, first), out(3)))
	frame := bytes.Repeat([]byte{255}, 64)
	zero := with(frame, 0, make([]byte, 32))
	for range 3 {
		wantRun(t, f, frame, 1, frame, "the stack is filled")
		wantRun(t, g, frame, 2, zero, "the stack of another filter")
		wantRun(t, h, frame, 3, zero, "the stack is read, and then filled")
	}
	for at := 1; at <= api.StackSize; at++ {
		c := code(ins(api.Load1, 4, 7, -at, 0), mov(5, -1), ins(api.Store1, 7, 5, -at, 0), ins(api.Jeq+api.Imm, 4, 0, 2, 0), out(0), out(1))
		for range 2 {
			wantRun(t, letIn(t, c), nil, 1, nil, fmt.Sprintf("the byte %d of the stack", -at))
		}
	}
}

// TestP7FrameAndStackApart: what is written in one is not seen in the other,
// at their edges neither.
func TestP7FrameAndStackApart(t *testing.T) {
	low := code(mov(4, -1), ins(api.Store8, 1, 4, 0, 0), stackToFrame())
	for _, n := range []int{32, 33, 64} {
		frame := counted(n)
		wantRun(t, letIn(t, code(tested(32, low), out(1))), frame, 1, with(frame, 0, make([]byte, 32)), "written in the frame, read in the stack")
		high := code(mov(4, -1), ins(api.Store8, 1, 4, n-8, 0), ins(api.Load8, 5, 7, -32, 0), ins(api.Load8, 6, 7, -8, 0), ins(api.Or, 5, 6, 0, 0), ins(api.Store8, 1, 5, 0, 0))
		want := with(with(frame, n-8, words(math.MaxUint64)), 0, words(0))
		wantRun(t, letIn(t, code(tested(n, high), out(1))), frame, 1, want, "written at the frame's end")
		deep := code(mov(4, -1), ins(api.Store8, 7, 4, -8, 0), ins(api.Store8, 7, 4, -32, 0))
		wantRun(t, letIn(t, code(deep, out(1))), frame, 1, frame, "written in the stack")
	}
}

// TestP7StoreRegisters: the number that is stored is that of src, and dst's
// place goes by dst, whichever registers they are.
func TestP7StoreRegisters(t *testing.T) {
	for dst := 3; dst <= 6; dst++ {
		for src := 3; src <= 6; src++ {
			if dst == src {
				continue
			}
			c := code(tested(9, code(cp(dst, 1), mov(src, 0x1234), ins(api.Store2, dst, src, 5, 0), ins(api.Load2, src, dst, 0, 0), ins(api.Store2, dst, src, 7, 0))), out(1))
			frame := counted(9)
			want := with(with(frame, 5, []byte{0x34, 0x12}), 7, frame[:2])
			wantRun(t, letIn(t, c), frame, 1, want, fmt.Sprintf("Store and Load by registers %d and %d", dst, src))
		}
	}
	self := letIn(t, code(tested(2, code(cp(4, 1), load(4, 4, 1), ins(api.Store1, 1, 4, 0, 0))), out(1)))
	wantRun(t, self, []byte{1, 2}, 1, []byte{2, 2}, "a Load through the register that it sets")
}
