package wicket_test

import (
	"fmt"
	"testing"

	"wicket/api"
)

// comparison is an operation, and whether it jumps where dst's value is less,
// equal, greater.
type comparison struct {
	op                   int
	less, equal, greater int
}

func comparisons() []comparison {
	return []comparison{
		{api.Jeq, 0, 1, 0},
		{api.Jne, 1, 0, 1},
		{api.Jgt, 0, 0, 1},
		{api.Jge, 0, 1, 1},
		{api.Jlt, 1, 0, 0},
		{api.Jle, 1, 1, 0},
	}
}

// jumps is 1 or 0.
func (c comparison) jumps(less, equal bool) int {
	if less {
		return c.less
	}
	if equal {
		return c.equal
	}
	return c.greater
}

// asked is a comparison whose verdict is 1 if it jumps, else 0.
func asked(x []byte) []byte { return code(x, out(0), out(1)) }

// TestP7CompareNumbers: without a sign, by registers and by NUM.
func TestP7CompareNumbers(t *testing.T) {
	read := code(ins(api.Load8, 4, 1, 0, 0), ins(api.Load8, 5, 1, 8, 0))
	for _, c := range comparisons() {
		two := letIn(t, code(tested(16, code(read, asked(ins(c.op, 4, 5, 2, 0)))), out(2)))
		one := letIn(t, code(tested(16, code(read, asked(ins(c.op, 5, 5, 2, 0)))), out(2)))
		for _, a := range sizes() {
			for _, b := range sizes() {
				frame := words(a, b)
				wantRun(t, two, frame, c.jumps(a < b, a == b), frame, fmt.Sprintf("operation %d of %d and %d", c.op, a, b))
			}
			wantRun(t, one, words(7, a), c.equal, words(7, a), fmt.Sprintf("operation %d of %d twice", c.op, a))
		}
		for _, num := range nums() {
			f := letIn(t, code(tested(16, code(read, asked(ins(c.op+api.Imm, 4, 0, 2, num)))), out(2)))
			b := uint64(int64(num))
			for _, a := range append(sizes(), b-1, b, b+1) {
				frame := words(a, 5)
				wantRun(t, f, frame, c.jumps(a < b, a == b), frame, fmt.Sprintf("operation %d of %d and NUM %d", c.op, a, num))
			}
		}
	}
}

// TestP7CompareWithTheEnd: places on both sides of the end, and at it.
func TestP7CompareWithTheEnd(t *testing.T) {
	for _, c := range comparisons() {
		for _, k := range []int{-1000, -65, -1, 0, 1, 2, 8, 31, 32, 33, 63, 64, 65, 1000} {
			place := code(cp(4, 1), add(4, k))
			told := code(call(api.First), cp(4, 0), add(4, k), call(api.Last))
			one := letIn(t, code(place, asked(ins(c.op, 4, 2, 2, 0))))
			turned := letIn(t, code(place, asked(ins(c.op, 2, 4, 2, 0))))
			anew := letIn(t, code(told, asked(ins(c.op, 4, 0, 2, 0))))
			for n := range api.MaxFrame + 1 {
				frame := counted(n)
				what := fmt.Sprintf("operation %d of the place %d and the end of %d bytes", c.op, k, n)
				wantRun(t, one, frame, c.jumps(k < n, k == n), frame, what)
				wantRun(t, anew, frame, c.jumps(k < n, k == n), frame, what+", told anew")
				wantRun(t, turned, frame, c.jumps(n < k, k == n), frame, what+", turned")
			}
		}
	}
}

// TestP7ComparePlaces: two frame places, and two stack places, also below 0.
func TestP7ComparePlaces(t *testing.T) {
	list := []int{-1000, -999, -33, -32, -1, 0, 1, 64, 999, 1000}
	for _, c := range comparisons() {
		for _, base := range []int{1, 7} {
			for _, k := range list {
				for _, j := range list {
					puts := code(cp(4, base), add(4, k), cp(5, base), add(5, j))
					f := letIn(t, code(puts, asked(ins(c.op, 4, 5, 2, 0))))
					what := fmt.Sprintf("operation %d of the places %d and %d of register %d", c.op, k, j, base)
					wantRun(t, f, nil, c.jumps(k < j, k == j), nil, what)
					wantRun(t, f, counted(64), c.jumps(k < j, k == j), counted(64), what)
				}
			}
		}
	}
}

// TestP7CompareKeeps: a comparison changes nothing.
func TestP7CompareKeeps(t *testing.T) {
	for _, c := range comparisons() {
		for _, over := range []int{0, 1} {
			f := onWords(t, code(ins(c.op, 4, 5, over, 0), jump(0)))
			g := onWords(t, code(ins(c.op+api.Imm, 4, 0, over, 5), jump(0)))
			for _, frame := range [][]byte{words(3, 5), words(5, 5), words(5, 3)} {
				wantRun(t, f, frame, 1, frame, "a comparison of registers")
				wantRun(t, g, frame, 1, frame, "a comparison with NUM")
			}
		}
	}
}
