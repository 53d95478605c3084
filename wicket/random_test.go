package wicket_test

import (
	"bytes"
	"math"
	"math/rand"
	"slices"
	"testing"

	"wicket/api"
	"wicket/wicket"
)

func pick(r *rand.Rand, list ...int) int { return list[r.Intn(len(list))] }

// randomStep is an instruction of the table that leaves out at most so many.
func randomStep(r *rand.Rand, over int) []byte {
	dst, src := r.Intn(api.Registers-1), r.Intn(api.Registers)
	off := pick(r, r.Intn(20), -r.Intn(36), r.Intn(8), 0)
	num := pick(r, r.Intn(5), r.Intn(70), -r.Intn(70), r.Intn(2100)-1050, 1<<r.Intn(31), -1<<r.Intn(31), math.MaxInt32)
	leap := r.Intn(min(over, 6) + 1)
	switch r.Intn(12) {
	case 0, 1:
		return ins(api.Mov, dst, src, 0, 0)
	case 2:
		return ins(api.Mov+api.Imm, dst, 0, 0, num)
	case 3:
		return ins(api.Add+r.Intn(2)+api.Imm, dst, 0, 0, num)
	case 4:
		return ins(api.Add+r.Intn(10), dst, src, 0, 0)
	case 5:
		return ins(api.Add+r.Intn(10)+api.Imm, dst, 0, 0, num)
	case 6:
		return ins(api.Load1+r.Intn(4), dst, src, off, 0)
	case 7:
		return ins(api.Store1+r.Intn(4), src, dst, off, 0)
	case 8:
		return ins(api.Jeq+r.Intn(6)+api.Imm, src, 0, leap, num)
	case 9:
		return ins(pick(r, api.Jgt, api.Jgt, api.Jeq+r.Intn(6)), dst, src, leap, 0)
	case 10:
		return pickList(r, jump(leap), exit(), mov(0, r.Intn(4)))
	}
	return call(pick(r, api.Shrink, api.First, api.First, api.Last, api.Last))
}

func pickList(r *rand.Rand, list ...[]byte) []byte { return list[r.Intn(len(list))] }

// common is what all ways have in common.
func common(list ways) way {
	w, seen := way{}, false
	for other := range list {
		if !seen {
			w, seen = other, true
		}
		for i, k := range other.registers {
			if k != w.registers[i] {
				w.registers[i] = kind{}
			}
		}
		w.tested = min(w.tested, other.tested)
	}
	return w
}

// having picks a register that holds something of a sort, or any.
func having(r *rand.Rand, w way, sort sortOfKind) (register, k int) {
	for range 30 {
		register = r.Intn(api.Registers)
		if w.registers[register].sort == sort {
			break
		}
	}
	return register, w.registers[register].k
}

// likelyStep is an instruction that is mostly plain behind what is common to
// all ways.
func likelyStep(r *rand.Rand, w way, over int) []byte {
	log, dst, leap := r.Intn(4), r.Intn(api.Registers-1), r.Intn(min(over, 6)+1)
	n, _ := having(r, w, kNumber)
	m, _ := having(r, w, kNumber)
	first, k := having(r, w, kFirst)
	stack, j := having(r, w, kStack)
	end, _ := having(r, w, kEnd)
	frameOff := r.Intn(max(1, w.tested-1<<log+1)) - k
	stackOff := r.Intn(33-1<<log) - 32 - j
	return pickList(r,
		ins(api.Load1+log, dst, first, frameOff, 0),
		ins(api.Store1+log, first, n, frameOff, 0),
		ins(api.Load1+log, dst, stack, stackOff, 0),
		ins(api.Store1+log, stack, n, stackOff, 0),
		ins(api.Jgt, first, end, leap, 0),
		ins(api.Jgt, first, end, over-r.Intn(over/2+1), 0),
		ins(api.Jeq+r.Intn(6), end, first, leap, 0),
		ins(api.Add+api.Imm, min(first, 6), 0, 0, r.Intn(40)),
		ins(api.Add+r.Intn(10), min(m, 6), n, 0, 0),
		ins(api.Jeq+r.Intn(6), m, n, leap, 0))
}

// randomPlain makes plain code of n instructions, by taking at each place
// what is plain on all ways that come there.
func randomPlain(r *rand.Rand, n int) []byte {
	at := make([]ways, n+1)
	for i := range at {
		at[i] = ways{}
	}
	at[0].put(firstWay())
	c := []byte{}
	for i := range n {
		x, next, jump := randomPlainStep(r, at[i], i, n)
		at[i+1].putAll(next)
		if len(jump) > 0 {
			at[i+1+stepsOf(x)[0].off].putAll(jump)
		}
		c = append(c, x...)
	}
	return c
}

// randomPlainStep leaves the last two places to what always ends a code.
func randomPlainStep(r *rand.Rand, here ways, i, n int) (x []byte, next, jump ways) {
	w := common(here)
	for range 60 {
		switch {
		case i >= n-2:
			x = out(r.Intn(4))[8*(i-n+2):][:8]
		case r.Intn(3) == 0:
			x = randomStep(r, n-3-i)
		default:
			x = likelyStep(r, w, n-3-i)
		}
		is := false
		next, jump, is = allOn(here, stepsOf(x)[0])
		if is && len(next)+len(jump) < 300 {
			return x, next, jump
		}
	}
	x = mov(r.Intn(api.Registers-1), r.Intn(4))
	next, jump, _ = allOn(here, stepsOf(x)[0])
	return x, next, jump
}

// randomTested reads about the edge of what a test has shown.
func randomTested(r *rand.Rand) []byte {
	n := r.Intn(api.MaxFrame) + 1
	size := r.Intn(4)
	inner := code(ins(api.Load1+size, 4, 1, n-1<<size+r.Intn(3)-1, 0), randomStep(r, 0), ins(api.Store1+r.Intn(4), 1, 4, r.Intn(n), 0))
	return code(tested(n, inner), randomStep(r, 1), out(r.Intn(4)))
}

func TestP5RandomPlain(t *testing.T) {
	r := rand.New(rand.NewSource(11))
	for range 1500 {
		wantPlain(t, randomPlain(r, 2+r.Intn(api.MaxCode-1)), "random")
	}
}

// changed is code with one instruction, or one byte, that is another.
func changed(r *rand.Rand, c []byte) []byte {
	c = bytes.Clone(c)
	at := r.Intn(count(c) - 1)
	if r.Intn(2) == 0 {
		copy(c[8*at:], randomStep(r, count(c)-2-at))
	} else {
		c[8*at+r.Intn(8)] = byte(pick(r, r.Intn(256), r.Intn(8)))
	}
	return c
}

// TestP5RandomHarm changes plain code, so that much of it is plain no more.
func TestP5RandomHarm(t *testing.T) {
	r := rand.New(rand.NewSource(12))
	frames := fewFrames()
	harm := 0
	for range 6000 {
		c := changed(r, randomPlain(r, 2+r.Intn(30)))
		if r.Intn(2) == 0 {
			c = randomTested(r)
		}
		if _, e, _ := wicket.Load(c); e == api.OK || e == api.ErrUnsafe {
			_, faults := holdTo(t, c, frames, "random")
			harm += btoi(faults)
		}
	}
	if harm < 500 {
		t.Errorf("only %d random codes are not safe", harm)
	}
}

// TestP5GrownCode sets random instructions into code as long as Load goes on
// letting it in: so it gets to much that is let in and not plain.
func TestP5GrownCode(t *testing.T) {
	r := rand.New(rand.NewSource(13))
	for range 300 {
		c := grown(r, 2+r.Intn(60))
		for _, frame := range fewFrames() {
			if _, _, faults := runPlain(c, frame); faults {
				t.Fatalf("P5: what was let in faults on the frame %v: %v", frame, c)
			}
		}
	}
}

func grown(r *rand.Rand, n int) []byte {
	c := code(pickList(r, nil, mov(4, 0)), tested(pick(r, 1, 2, 8, 16, 64), pickList(r, nil, code(load(4, 1, 0), cp(5, 1), cp(6, 7)))), out(1))
	for range 20 * n {
		if count(c) >= min(n, api.MaxCode) {
			break
		}
		at := r.Intn(count(c))
		more := slices.Insert(bytes.Clone(c), 8*at, randomStep(r, count(c)-1-at)...)
		if _, e, _ := wicket.Load(more); e == api.OK {
			c = more
		}
	}
	return c
}

// fewFrames has fewer frames than allFrames, of the lengths that matter most.
func fewFrames() [][]byte {
	var list [][]byte
	for _, frame := range allFrames() {
		if n := len(frame); n < 18 || n%8 == 0 || n > 61 {
			list = append(list, frame)
		}
	}
	return list
}
