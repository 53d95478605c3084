package wicket_test

import (
	"fmt"
	"testing"

	"wicket/api"
)

// lowFrames has all pairs of low bits in the first two bytes.
func lowFrames() [][]byte {
	var list [][]byte
	for a := range 8 {
		for b := range 8 {
			list = append(list, []byte{byte(a), byte(b)})
		}
	}
	return append(list, nil, []byte{255, 255}, []byte{0, 255}, []byte{255, 0})
}

// TestP5TwoNumbers works out what comes of two numbers of which only bounds
// are known, and takes it, less something, for a verdict: what is let in of
// it must always be one.
func TestP5TwoNumbers(t *testing.T) {
	bounds := []struct{ mask, more int }{{0, 0}, {0, 2}, {1, 0}, {1, 1}, {3, 0}, {3, 3}, {1, -1}}
	part := func(register, off, mask, more int) []byte {
		return code(load(register, 1, off), ins(api.And+api.Imm, register, 0, 0, mask), add(register, more))
	}
	for op := api.Add; op <= api.Shr; op++ {
		for _, a := range bounds {
			for _, b := range bounds {
				for less := -4; less < 9; less++ {
					result := code(part(0, 0, a.mask, a.more), part(5, 1, b.mask, b.more), ins(op, 0, 5, 0, 0), add(0, -less))
					c := code(mov(0, 1), tested(2, result), exit())
					holdTo(t, c, lowFrames(), fmt.Sprintf("operation %d of %v and %v, less %d", op, a, b, less))
				}
			}
		}
	}
}

// TestP5WrapsRound: what is left out of a result makes it any number.
func TestP5WrapsRound(t *testing.T) {
	read := code(ins(api.Load8, 0, 1, 0, 0), ins(api.Load8, 4, 1, 8, 0))
	harm := load(5, 5, 0)
	for _, op := range []int{api.Add, api.Sub, api.Mul, api.Shl} {
		worked := code(read, ins(op, 0, 4, 0, 0))
		wantHarm(t, code(mov(0, 1), tested(16, worked), exit()), "any number is the verdict")
		zero := code(worked, ins(api.Jgt+api.Imm, 0, 0, 1, 0), harm)
		wantHarm(t, code(tested(16, zero), out(1)), "any number may be 0")
		high := code(worked, mov(5, -1), ins(api.Shr+api.Imm, 5, 0, 0, 1), ins(api.Jle, 0, 5, 1, 0), ins(api.Mul, 1, 2, 0, 0))
		wantHarm(t, code(tested(16, high), out(1)), "any number may have the highest bit")
	}
}

// TestP5TwoPlaces does so with how far two places are apart.
func TestP5TwoPlaces(t *testing.T) {
	for _, base := range []int{1, 7} {
		for k := -3; k <= 3; k++ {
			for j := -3; j <= 3; j++ {
				for less := -8; less <= 8; less++ {
					moved := code(load(4, 1, 0), ins(api.And+api.Imm, 4, 0, 0, 1), cp(5, base), add(5, k), ins(api.Add, 5, 4, 0, 0), cp(6, base), add(6, j))
					one := code(moved, cp(0, 5), ins(api.Sub, 0, 6, 0, 0), add(0, -less))
					holdTo(t, code(mov(0, 1), tested(2, one), exit()), lowFrames(), "a place less another")
					other := code(moved, cp(0, 6), ins(api.Sub, 0, 5, 0, 0), add(0, -less))
					holdTo(t, code(mov(0, 1), tested(2, other), exit()), lowFrames(), "another less that place")
				}
			}
		}
	}
}

// TestP5PlaceLessNumber moves a place by a number of which only bounds are
// known, and reads there.
func TestP5PlaceLessNumber(t *testing.T) {
	for _, op := range []int{api.Add, api.Sub} {
		for more := -3; more <= 3; more++ {
			for off := -5; off <= 9; off++ {
				step := code(load(4, 1, 0), ins(api.And+api.Imm, 4, 0, 0, 1), add(4, more))
				what := fmt.Sprintf("operation %d with 0 or 1, and %d more, OFF %d", op, more, off)
				frame := code(step, cp(5, 1), ins(op, 5, 4, 0, 0), load(6, 5, off))
				holdTo(t, code(tested(2, frame), out(1)), lowFrames(), what)
				stack := code(step, cp(5, 7), ins(op, 5, 4, 0, 0), load(6, 5, off), load(6, 5, off-28))
				holdTo(t, code(tested(2, stack), out(1)), lowFrames(), what+", of the stack")
				turned := code(step, cp(5, 1), ins(api.Add, 4, 5, 0, 0), load(6, 4, off))
				holdTo(t, code(tested(2, turned), out(1)), lowFrames(), what+", the number first")
			}
		}
	}
}
