package wicket_test

import (
	"fmt"
	"testing"

	"wicket/api"
)

// TestP7MovedPlaces reads and writes through places that were moved, by NUM
// and by a register, up and down, as far as MaxPlace.
func TestP7MovedPlaces(t *testing.T) {
	for _, k := range []int{-1000, -64, -1, 0, 1, 5, 64, 1000} {
		frame := counted(16)
		moves := map[string][]byte{
			"Add of NUM":               code(cp(5, 1), add(5, k)),
			"Sub of NUM":               code(cp(5, 1), ins(api.Sub+api.Imm, 5, 0, 0, -k)),
			"Add of a register":        code(cp(5, 1), mov(6, k), ins(api.Add, 5, 6, 0, 0)),
			"Add of a place":           code(mov(5, k), ins(api.Add, 5, 1, 0, 0)),
			"Sub of a register":        code(cp(5, 1), mov(6, -k), ins(api.Sub, 5, 6, 0, 0)),
			"two steps":                code(cp(5, 1), add(5, k/2), add(5, k-k/2)),
			"there and back, and then": code(cp(5, 1), add(5, 900), add(5, -1900), add(5, 1000), add(5, k)),
		}
		for how, move := range moves {
			reads := code(move, load(4, 5, 9-k), ins(api.Store1, 5, 4, 3-k, 0))
			wantRun(t, letIn(t, code(tested(16, reads), out(1))), frame, 1, with(frame, 3, frame[9:10]), fmt.Sprintf("the frame by %s, %d", how, k))
		}
		for name, c := range map[string][]byte{
			"Add": code(cp(5, 7), add(5, k)),
			"Sub": code(cp(5, 7), ins(api.Sub+api.Imm, 5, 0, 0, -k)),
		} {
			writes := code(c, load(4, 1, 2), ins(api.Store1, 5, 4, -32-k, 0), ins(api.Store1, 5, 4, -1-k, 0), ins(api.Load8, 4, 7, -32, 0), ins(api.Store8, 1, 4, 0, 0), ins(api.Load8, 4, 5, -8-k, 0), ins(api.Store8, 1, 4, 8, 0))
			want := words(uint64(frame[2]), uint64(frame[2])<<56)
			wantRun(t, letIn(t, code(tested(16, writes), out(1))), frame, 1, want, fmt.Sprintf("the stack by %s, %d", name, k))
		}
	}
}

// TestP7PlacesByBytes moves places by what the frame tells.
func TestP7PlacesByBytes(t *testing.T) {
	number := code(load(4, 1, 0), ins(api.And+api.Imm, 4, 0, 0, 15))
	up := letIn(t, code(tested(16, code(number, cp(5, 1), ins(api.Add, 5, 4, 0, 0), load(6, 5, 0), ins(api.Store1, 1, 6, 1, 0))), out(1)))
	down := letIn(t, code(tested(16, code(number, cp(5, 1), add(5, 15), ins(api.Sub, 5, 4, 0, 0), load(6, 5, 0), ins(api.Store1, 1, 6, 1, 0))), out(1)))
	stack := letIn(t, code(tested(16, code(number, cp(5, 7), ins(api.Sub, 5, 4, 0, 0), mov(6, 77), ins(api.Store1, 5, 6, -1, 0), ins(api.Load8, 6, 7, -8, 0), ins(api.Store8, 1, 6, 0, 0), ins(api.Load8, 6, 7, -16, 0), ins(api.Store8, 1, 6, 8, 0))), out(1)))
	for b := range 256 {
		frame := with(counted(16), 0, []byte{byte(b)})
		n := b % 16
		wantRun(t, up, frame, 1, with(frame, 1, frame[n:n+1]), "a place and a byte")
		wantRun(t, down, frame, 1, with(frame, 1, frame[15-n:16-n]), "a place less a byte")
		want := make([]byte, 16)
		want[(15-n+8)%16] = 77
		wantRun(t, stack, frame, 1, want, "a stack place less a byte")
	}
}

// TestP7PlacesApart: two places of a kind, one less the other, are a number.
func TestP7PlacesApart(t *testing.T) {
	list := []int{-1000, -999, -32, -1, 0, 1, 63, 64, 1000}
	for _, base := range []int{1, 7} {
		for _, k := range list {
			for _, j := range list {
				apart := code(cp(4, base), add(4, k), cp(5, base), add(5, j), ins(api.Sub, 4, 5, 0, 0), ins(api.Store8, 1, 4, 0, 0))
				f := letIn(t, code(tested(8, apart), out(1)))
				wantRun(t, f, counted(8), 1, words(uint64(k-j)), fmt.Sprintf("the places %d and %d of register %d", k, j, base))
			}
		}
	}
	length := letIn(t, code(cp(4, 2), ins(api.Sub, 4, 1, 0, 0), cp(5, 1), ins(api.Sub, 5, 2, 0, 0), tested(16, code(ins(api.Store8, 1, 4, 0, 0), ins(api.Store8, 1, 5, 8, 0))), out(1)))
	for n := 16; n <= api.MaxFrame; n++ {
		frame := counted(n)
		wantRun(t, length, frame, 1, with(frame, 0, words(uint64(n), uint64(-n))), "the end less the first place, and the first place less the end")
	}
}

// TestP7PlacesCopied: a Mov copies a place, and what becomes of the copy is
// not seen in the first.
func TestP7PlacesCopied(t *testing.T) {
	c := code(tested(8, code(cp(4, 1), cp(5, 4), add(5, 3), cp(6, 5), add(6, 2), load(0, 4, 0), ins(api.Store1, 5, 0, 0, 0), ins(api.Store1, 6, 0, 0, 0))), out(1))
	frame := counted(8)
	wantRun(t, letIn(t, c), frame, 1, with(with(frame, 3, frame[:1]), 5, frame[:1]), "copies")
	ends := letIn(t, code(cp(4, 2), cp(5, 2), add(5, 1), ins(api.Jeq, 4, 2, 2, 0), out(0), out(1)))
	wantRun(t, ends, frame, 1, frame, "copies of the end")
}

// TestP7FirstAndLast: they tell the same as registers 1 and 2 at first, and
// set no other register.
func TestP7FirstAndLast(t *testing.T) {
	first := letIn(t, code(mov(4, 7), call(api.First), ins(api.Jne, 0, 1, 3, 0), ins(api.Jne+api.Imm, 4, 0, 2, 7), out(1), out(0)))
	last := letIn(t, code(mov(4, 7), call(api.Last), ins(api.Jne, 0, 2, 3, 0), ins(api.Jne+api.Imm, 4, 0, 2, 7), out(1), out(0)))
	both := letIn(t, code(call(api.First), cp(4, 0), call(api.Last), ins(api.Jeq, 4, 0, 2, 0), out(1), out(0)))
	for n := range api.MaxFrame + 1 {
		frame := counted(n)
		wantRun(t, first, frame, 1, frame, "First")
		wantRun(t, last, frame, 1, frame, "Last")
		wantRun(t, both, frame, min(n, 1), frame, "First and Last")
	}
	reads := letIn(t, code(tested(3, code(call(api.First), load(4, 0, 2), ins(api.Store1, 0, 4, 0, 0))), out(1)))
	wantRun(t, reads, []byte{1, 2, 3, 4}, 1, []byte{3, 2, 3, 4}, "by what First tells")
}
