package wicket_test

import (
	"bytes"
	"fmt"
	"testing"

	"wicket/api"
	"wicket/wicket"
)

// letIn is a filter of code that Load must let in.
func letIn(t *testing.T, c []byte) *wicket.Filter {
	t.Helper()
	f, e, at := wicket.Load(c)
	if f == nil || e != api.OK {
		t.Fatalf("P5: not let in: error %d at %d: %v", e, at, c)
	}
	return f
}

// wantRun asks for a verdict, and for a frame as it is left.
func wantRun(t *testing.T, f *wicket.Filter, frame []byte, verdict int, left []byte, what string) {
	t.Helper()
	if v, b, e := f.Run(frame); v != verdict || !bytes.Equal(b, left) || e != api.OK {
		t.Errorf("P7: %s: Run(%v): verdict %d, left %v, error %d, want %d, %v: %v", what, frame, v, b, e, verdict, left, f.Code())
	}
}

// wantMachine asks for what the plain machine does.
func wantMachine(t *testing.T, f *wicket.Filter, frames [][]byte, what string) {
	t.Helper()
	for _, frame := range frames {
		verdict, left, faults := runPlain(f.Code(), frame)
		if faults {
			t.Errorf("P5: %s: what was let in faults on the frame %v: %v", what, frame, f.Code())
		} else {
			wantRun(t, f, frame, verdict, left, what)
		}
	}
}

// counted is a frame of bytes that are all different.
func counted(n int) []byte {
	frame := make([]byte, n)
	for i := range frame {
		frame[i] = byte(i + 101)
	}
	return frame
}

func TestP7FrameLengths(t *testing.T) {
	for _, c := range codesLetIn() {
		f := letIn(t, c)
		for _, n := range []int{0, 1, api.MaxFrame - 1, api.MaxFrame} {
			if _, _, e := f.Run(make([]byte, n)); e != api.OK {
				t.Errorf("P7: Run on %d bytes: error %d", n, e)
			}
		}
		for _, n := range []int{api.MaxFrame + 1, api.MaxFrame + 2, 2 * api.MaxFrame, 256, 65536, 1 << 20} {
			if v, left, e := f.Run(make([]byte, n)); v != 0 || len(left) != 0 || e != api.ErrFrame {
				t.Errorf("P7: Run on %d bytes: verdict %d, left %v, error %d", n, v, left, e)
			}
		}
	}
}

// TestP7SpareRoom: a frame is as long as it is, whatever stands behind it.
func TestP7SpareRoom(t *testing.T) {
	f := letIn(t, code(tested(4, out(1)), out(2)))
	room := counted(200)
	wantRun(t, f, room[:3], 2, room[:3], "room behind the frame")
	wantRun(t, f, room[10:14], 1, room[10:14], "room on both sides")
	wantRun(t, f, room[:api.MaxFrame], 1, room[:api.MaxFrame], "room behind the longest frame")
	wantRun(t, f, nil, 2, nil, "nil")
	wantRun(t, f, []byte{}, 2, nil, "no bytes")
}

// TestP7Examples are those of the document that tell a verdict, by their bytes.
func TestP7Examples(t *testing.T) {
	end := []byte{41, 0, 0, 0, 0, 0, 0, 0}
	two := []byte{129, 0, 0, 0, 2, 0, 0, 0}
	test := []byte{1, 19, 0, 0, 0, 0, 0, 0, 130, 3, 0, 0, 1, 0, 0, 0, 33, 35, 2, 0, 0, 0, 0, 0}
	plain2 := letIn(t, code(two, end))
	masked := letIn(t, code([]byte{129, 0, 0, 0, 1, 0, 0, 0}, test, []byte{20, 16, 0, 0, 0, 0, 0, 0, 135, 0, 0, 0, 3, 0, 0, 0}, end))
	wantRun(t, masked, []byte{7}, 3, []byte{7}, "the frame 7")
	wantRun(t, masked, nil, 1, nil, "the empty frame")
	shrinks := letIn(t, plainExamples()[1])
	for _, frame := range allFrames() {
		wantRun(t, plain2, frame, 2, frame, "register 0 is 2")
		wantRun(t, shrinks, frame, 2, frame[min(1, len(frame)):], "First, Last and Shrink")
		wantRun(t, letIn(t, plainExamples()[0]), frame, 0, frame, "a Load1 behind a test")
	}
}

func TestP7Verdicts(t *testing.T) {
	for v := range 4 {
		wantRun(t, letIn(t, out(v)), nil, v, nil, "a verdict")
		wantRun(t, letIn(t, code(mov(0, 3-v), mov(0, v), exit())), nil, v, nil, "the last of two")
		two := letIn(t, code(onOneWay(true, out(v)), out(3-v)))
		wantRun(t, two, nil, v, nil, "on one way")
		wantRun(t, two, []byte{1}, 3-v, []byte{1}, "on the other")
	}
	worked := letIn(t, code(mov(0, 0), tested(1, code(load(0, 1, 0), ins(api.And+api.Imm, 0, 0, 0, 3))), exit()))
	for b := range 256 {
		wantRun(t, worked, []byte{byte(b)}, b%4, []byte{byte(b)}, "worked out")
	}
}

// marks sets a bit of register 4 of its own, so that it can be seen which of
// many instructions were carried out.
func marks(n int) []byte { return ins(api.Or+api.Imm, 4, 0, 0, 1<<n) }

// seen puts those bits into the frame's first four bytes.
func seen() []byte { return ins(api.Store4, 1, 4, 0, 0) }

func markedBy(list ...int) []byte {
	var n uint32
	for _, i := range list {
		n |= 1 << i
	}
	return []byte{byte(n), byte(n >> 8), byte(n >> 16), byte(n >> 24)}
}

// TestP7Jumps: so many instructions are left out, no more and no less.
func TestP7Jumps(t *testing.T) {
	for over := range 21 {
		var all []byte
		var want []int
		for i := range 20 {
			all = append(all, marks(i)...)
			if i >= over {
				want = append(want, i)
			}
		}
		jumps := code(jump(over), all, seen())
		wantRun(t, letIn(t, code(mov(4, 0), tested(4, jumps), out(1))), make([]byte, 4), 1, markedBy(want...), fmt.Sprintf("Jump over %d", over))
		taken := code(ins(api.Jeq, 4, 4, over, 0), all, seen())
		wantRun(t, letIn(t, code(mov(4, 0), tested(4, taken), out(1))), make([]byte, 4), 1, markedBy(want...), fmt.Sprintf("Jeq over %d", over))
		passed := code(ins(api.Jne, 4, 4, over, 0), all, seen())
		wantRun(t, letIn(t, code(mov(4, 0), tested(4, passed), out(1))), make([]byte, 4), 1, markedBy(0, 1, 2, 3, 4, 5, 6, 7, 8, 9, 10, 11, 12, 13, 14, 15, 16, 17, 18, 19), fmt.Sprintf("Jne, passed, over %d", over))
	}
	far := api.MaxCode - 3
	wantRun(t, letIn(t, code(jump(far), bytes.Repeat(mov(0, 3), far), out(2))), nil, 2, nil, "as far as may be")
	wantRun(t, letIn(t, code(mov(0, 1), jump(far), bytes.Repeat(mov(0, 3), far), exit())), nil, 1, nil, "to the last instruction")
}

// TestP7Exit: nothing behind it is carried out, wherever it stands.
func TestP7Exit(t *testing.T) {
	for n := range api.MaxCode - 2 {
		c := code(bytes.Repeat(mov(0, 3), n), out(2), bytes.Repeat(mov(0, 1), api.MaxCode-3-n), exit())
		wantRun(t, letIn(t, c), []byte{5}, 2, []byte{5}, fmt.Sprintf("an Exit behind %d instructions", n+1))
	}
	store := code(mov(4, 9), ins(api.Store1, 1, 4, 0, 0))
	wantRun(t, letIn(t, code(tested(1, code(out(1), store)), out(2))), []byte{5}, 1, []byte{5}, "a Store behind an Exit")
	wantRun(t, letIn(t, code(tested(1, code(store, out(1))), out(2))), []byte{5}, 1, []byte{9}, "a Store ahead of an Exit")
}

// TestP7OffIsNoJump: OFF of a Load or Store moves the place alone, and does
// not lead elsewhere in the code.
func TestP7OffIsNoJump(t *testing.T) {
	for off := range 4 {
		c := code(tested(8, code(load(4, 1, off), ins(api.Store1, 1, 4, off+4, 0))), out(off))
		frame := counted(8)
		left := bytes.Clone(frame)
		left[off+4] = frame[off]
		wantRun(t, letIn(t, c), frame, off, left, "OFF of a Load and a Store")
	}
}
