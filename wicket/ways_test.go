package wicket_test

import (
	"bytes"
	"fmt"
	"testing"

	"wicket/api"
)

// TestP5EachComparison goes, by each comparison of a place and the end, to
// both sides, and reads there.
func TestP5EachComparison(t *testing.T) {
	for op := api.Jeq; op <= api.Jle; op++ {
		for _, registers := range [][2]int{{3, 2}, {2, 3}} {
			for _, k := range []int{-1, 0, 1, 2, 63, 64, 65} {
				x := func(over int) []byte {
					return code(cp(3, 1), add(3, k), ins(op, registers[0], registers[1], over, 0))
				}
				for off := k - 3; off <= k+1; off++ {
					what := fmt.Sprintf("operation %d of registers %v, k %d, Load1 at %d", op, registers, k, off)
					holdTo(t, code(x(1), load(4, 1, off), out(1)), allFrames(), what+", passed")
					holdTo(t, code(x(2), out(1), load(4, 1, off), out(1)), allFrames(), what+", jumped")
					holdTo(t, code(x(0), load(4, 1, off), out(1)), allFrames(), what+", both")
				}
			}
		}
	}
}

// TestP5OneFormOfTest: only a Jgt of a place and the end, passed without its
// jump, is a test that plain code may make.
func TestP5OneFormOfTest(t *testing.T) {
	test := func(op, dst, src, over int) []byte {
		return code(cp(3, 1), add(3, 4), ins(op, dst, src, over, 0))
	}
	read := ins(api.Load4, 4, 1, 0, 0)
	wantPlain(t, code(test(api.Jgt, 3, 2, 1), read, out(1)), "the form")
	wantHarm(t, code(test(api.Jgt, 3, 2, 0), read, out(1)), "a jump over nothing")
	wantHarm(t, code(test(api.Jgt, 3, 2, 2), out(1), read, out(1)), "the jump's side")
	wantHarm(t, code(test(api.Jgt, 2, 3, 1), read, out(1)), "the other way round")
	wantHarm(t, code(test(api.Jge, 2, 3, 1), read, out(1)), "the other way round, not less")
	wantHarm(t, code(test(api.Jlt, 3, 2, 1), read, out(1)), "less")
	wantHarm(t, code(test(api.Jle, 3, 2, 1), read, out(1)), "not greater")
	wantHarm(t, code(test(api.Jeq, 3, 2, 1), read, out(1)), "equal")
	wantHarm(t, code(cp(3, 1), add(3, 4), cp(5, 1), ins(api.Jgt, 3, 5, 1, 0), jump(0), read, out(1)), "two places, no end")
	wantHarm(t, code(cp(3, 1), cp(5, 1), add(5, 4), ins(api.Jgt, 3, 5, 1, 0), read, out(1)), "two places, passed")
	wantHarm(t, code(mov(5, 4), mov(6, 64), ins(api.Jgt, 5, 6, 1, 0), read, out(1)), "numbers")
	wantHarm(t, code(cp(5, 7), ins(api.Jgt, 5, 7, 1, 0), read, out(1)), "stack places")
	wantHarm(t, code(cp(4, 2), add(4, -1), cp(3, 1), add(3, 4), ins(api.Jgt, 3, 4, 0, 0), read, out(1)), "less than the end, and no jump")
	wantHarm(t, code(cp(5, 2), add(5, 1), cp(3, 1), add(3, 4), ins(api.Jgt, 3, 5, 1, 0), read, out(1)), "behind the end")
}

// TestP5WaysMeet joins ways that know different things.
func TestP5WaysMeet(t *testing.T) {
	read := ins(api.Load4, 6, 1, 0, 0)
	either := func(a, b []byte) []byte {
		return code(onOneWay(true, code(a, jump(count(b)))), b)
	}
	put := map[string][]byte{"number": mov(5, 1), "first": cp(5, 1), "first plus 1": code(cp(5, 1), add(5, 1)), "end": cp(5, 2), "stack": cp(5, 7), "stack less 1": code(cp(5, 7), add(5, -1)), "nothing": jump(0)}
	uses := map[string][]byte{"Mov": cp(4, 5), "Add": add(5, 1), "Mul": ins(api.Mul+api.Imm, 5, 0, 0, 1), "Load": load(4, 5, -1), "Store": ins(api.Store1, 7, 5, -1, 0), "Jgt": ins(api.Jgt+api.Imm, 5, 0, 0, 1), "compared": ins(api.Jeq, 5, 2, 0, 0)}
	for a := range put {
		for b := range put {
			for use := range uses {
				what := fmt.Sprintf("%s on one way, %s on the other, then %s", a, b, use)
				holdTo(t, code(either(put[a], put[b]), uses[use], out(1)), allFrames(), what)
			}
			wantPlain(t, code(either(put[a], put[b]), mov(5, 0), cp(4, 5), out(1)), "not read where ways meet")
		}
	}
	for _, n := range []int{3, 4, 5} {
		for _, m := range []int{3, 4, 5} {
			// Each way has a test of its own, and leaves if it fails.
			test := func(n int) []byte {
				return code(cp(3, 1), add(3, n), ins(api.Jgt, 3, 2, 1, 0), jump(2), out(1))
			}
			fork := code(load(5, 1, 0), ins(api.Jne+api.Imm, 5, 0, count(test(n))+1, 0), test(n), jump(count(test(m))), test(m))
			c := code(tested(1, code(fork, read)), out(1))
			want5(t, n >= 4 && m >= 4, c, fmt.Sprintf("%d bytes tested on one way, %d on the other", n, m))
		}
	}
	for _, k := range []int{4, 64, 1000} {
		for _, empty := range []bool{true, false} {
			other := code(cp(5, 1), add(5, k))
			test := code(cp(3, 1), add(3, 4), ins(api.Jgt, 3, 5, 1, 0), read, out(1))
			wantHarm(t, code(cp(5, 2), onOneWay(empty, other), test), "tested by the end on one way, by another place on the other")
			wantHarm(t, code(other, onOneWay(empty, cp(5, 2)), test), "tested by another place on one way, by the end on the other")
		}
	}
	wantHarm(t, code(cp(4, 1), onOneWay(true, tested(4, mov(5, 0))), read, out(1)), "tested, but not on all ways")
	wantHarm(t, code(mov(4, 1), ins(api.Jeq+api.Imm, 4, 0, 3, 1), tested(4, jump(0)), read, out(1)), "a way around the test")
}

func TestP5NoWayThere(t *testing.T) {
	harm := code(load(0, 5, 0), ins(api.Mul, 1, 2, 0, 0))
	wantPlain(t, code(jump(2), harm, out(0)), "jumped over")
	wantPlain(t, code(out(0), harm, exit()), "behind an Exit")
	wantPlain(t, code(jump(3), jump(3), harm, jump(0), out(0)), "a jump that is jumped over")
	wantHarm(t, code(onOneWay(true, jump(2)), harm, out(0)), "jumped over on one way")
}

// TestP5ManyWays: code of MaxCode instructions has more ways than could be
// gone one by one.
func TestP5ManyWays(t *testing.T) {
	for _, over := range []int{0, 1, 2, 5} {
		forks := bytes.Repeat(ins(api.Jgt, 1, 2, over, 0), api.MaxCode-8)
		wantPlain(t, code(forks, bytes.Repeat(mov(4, 1), 6), out(1)), "forks")
		wantHarm(t, code(forks, bytes.Repeat(mov(4, 1), 5), load(4, 1, 0), out(1)), "forks, and no test of a byte")
		numbers := bytes.Repeat(ins(api.Jeq+api.Imm, 4, 0, over, 1), api.MaxCode-9)
		wantPlain(t, code(mov(4, 1), numbers, bytes.Repeat(mov(4, 1), 6), out(1)), "forks by numbers")
	}
	wantPlain(t, code(tested(8, bytes.Repeat(ins(api.Load8, 4, 1, 0, 0), api.MaxCode-5)), out(1)), "many Loads")
	wantHarm(t, code(tested(8, code(bytes.Repeat(ins(api.Load8, 4, 1, 0, 0), api.MaxCode-6), load(4, 1, 8))), out(1)), "many Loads, the last too far")
	wantHarm(t, code(bytes.Repeat(mov(4, 1), api.MaxCode-1), exit()), "nothing in register 0 at the last instruction")
	chain := code(cp(4, 1), bytes.Repeat(add(4, 20), 50))
	wantPlain(t, code(chain, out(1)), "fifty steps to MaxPlace")
	wantHarm(t, code(chain, add(4, 1), out(1)), "fifty steps to MaxPlace, and one")
}

// TestP5NumbersCompared: what a comparison of numbers tells must be so.
func TestP5NumbersCompared(t *testing.T) {
	for op := api.Jeq; op <= api.Jle; op++ {
		for _, n := range []int{0, 1, 3, 4, 255, 256, -1} {
			passed := func(over int) []byte { return ins(op+api.Imm, 0, 0, over, n) }
			turned := func(over int) []byte { return code(mov(4, n), ins(op, 4, 0, over, 0)) }
			twice := func(over int) []byte { return ins(op, 0, 0, over, 0) }
			for _, x := range []func(int) []byte{passed, turned, twice} {
				for _, word := range []int{api.Load1, api.Load8} {
					what := fmt.Sprintf("operation %d of a number and %d", op, n)
					read := ins(word, 0, 1, 0, 0)
					holdTo(t, code(mov(0, 0), tested(8, code(read, x(1), exit(), mov(0, 1))), exit()), allFrames(), what+", passed")
					holdTo(t, code(mov(0, 0), tested(8, code(read, x(2), out(0))), exit()), allFrames(), what+", jumped")
					holdTo(t, code(mov(0, 0), tested(8, code(read, x(0))), exit()), allFrames(), what+", both")
				}
			}
		}
	}
}
