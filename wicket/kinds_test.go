package wicket_test

import (
	"bytes"
	"fmt"
	"math"
	"slices"
	"testing"

	"wicket/api"
	"wicket/wicket"
)

func mov(dst, n int) []byte         { return ins(api.Mov+api.Imm, dst, 0, 0, n) }
func add(dst, n int) []byte         { return ins(api.Add+api.Imm, dst, 0, 0, n) }
func cp(dst, src int) []byte        { return ins(api.Mov, dst, src, 0, 0) }
func call(n int) []byte             { return ins(api.Call, 0, 0, 0, n) }
func out(verdict int) []byte        { return code(mov(0, verdict), exit()) }
func jump(over int) []byte          { return ins(api.Jump, 0, 0, over, 0) }
func count(c []byte) int            { return len(c) / 8 }
func load(dst, src, off int) []byte { return ins(api.Load1, dst, src, off, 0) }

// tested is code behind a test that leaves it out if the frame has not so
// many bytes. (It needs register 3.)
func tested(n int, c []byte) []byte {
	return code(cp(3, 1), add(3, n), ins(api.Jgt, 3, 2, count(c), 0), c)
}

// onOneWay is code that is gone through only if the frame is not empty, or
// only if it is.
func onOneWay(empty bool, c []byte) []byte {
	op := api.Jeq
	if empty {
		op = api.Jne
	}
	return code(ins(op, 1, 2, count(c), 0), c)
}

// wantUnsafe asks for ErrUnsafe at an instruction, always the same.
func wantUnsafe(t *testing.T, c []byte, what string) {
	t.Helper()
	f, e, at := wicket.Load(c)
	if f != nil || e != api.ErrUnsafe || at < 0 || at >= count(c) {
		t.Errorf("P5: %s: Load of what is not safe: filter %v, error %d at %d: %v", what, f != nil, e, at, c)
	}
	if _, again, atAgain := wicket.Load(bytes.Clone(c)); again != e || atAgain != at {
		t.Errorf("P5: %s: Load of the same code: error %d at %d, then %d at %d", what, e, at, again, atAgain)
	}
}

func wantPlain(t *testing.T, c []byte, what string) {
	t.Helper()
	if !isPlain(c) {
		t.Errorf("%s: the test is wrong: this is not plain: %v", what, c)
	}
	wantLoaded(t, c, "P5: "+what)
}

func wantHarm(t *testing.T, c []byte, what string) {
	t.Helper()
	if !faultsOn(c, allFrames()) {
		t.Errorf("%s: the test is wrong: this is safe: %v", what, c)
	}
	wantUnsafe(t, c, what)
}

// holdTo asks of any code what P5 says of it, and P7 if it is let in, and
// tells what it was.
func holdTo(t *testing.T, c []byte, frames [][]byte, what string) (plain, faults bool) {
	t.Helper()
	plain, faults = isPlain(c), faultsOn(c, frames)
	switch {
	case plain && faults:
		t.Errorf("%s: the test is wrong: plain code that faults: %v", what, c)
	case plain:
		wantLoaded(t, c, "P5: plain: "+what)
	case faults:
		wantUnsafe(t, c, what)
	default:
		wantShape(t, c, what)
	}
	if f, _, _ := wicket.Load(c); f != nil {
		wantMachine(t, f, frames, what)
	}
	return plain, faults
}

// operand puts a value of a kind into a register that held nothing.
type operand struct {
	name string
	put  func(register int) []byte
}

func operands() []operand {
	at := func(base, k int) func(int) []byte {
		return func(r int) []byte { return code(cp(r, base), add(r, k)) }
	}
	num := func(n int) func(int) []byte {
		return func(r int) []byte { return mov(r, n) }
	}
	return []operand{
		{"nothing", func(int) []byte { return nil }},
		{"0", num(0)},
		{"3", num(3)},
		{"-1", num(-1)},
		{"1000", num(1000)},
		{"the first place", at(1, 0)},
		{"the first place plus 3", at(1, 3)},
		{"the first place less 1000", at(1, -1000)},
		{"the end", func(r int) []byte { return cp(r, 2) }},
		{"the stack's end", at(7, 0)},
		{"a stack place", at(7, -16)},
		{"a far stack place", at(7, 1000)},
	}
}

// variants are instructions of an operation with these registers.
func variants(op, dst, src int) [][]byte {
	r, _ := rowOf(op)
	var list [][]byte
	switch {
	case r.imm && !r.jumps:
		for _, num := range []int{0, 1, -1, 984, 1000, -1000, 1001, -1001, 2000, -2000, math.MinInt32, math.MaxInt32} {
			list = append(list, ins(op, dst, 0, 0, num))
		}
	case r.imm:
		list = append(list, ins(op, dst, 0, 0, 0), ins(op, dst, 0, 1, 3), ins(op, dst, 0, 1, -1))
	case r.first == api.Load1 || r.first == api.Store1:
		for _, off := range []int{0, -1, 1, -8, -16, -17, -32, -33, 8, 13, 16, 64, 1000, math.MinInt16, math.MaxInt16} {
			list = append(list, ins(op, dst, src, off, 0))
		}
	case r.first == api.Mov || r.first == api.Jeq:
		list = append(list, ins(op, dst, src, 0, 0))
	}
	return list
}

// TestP5EachOperationOnEachKind goes through each operation of two operands,
// on each pair of kinds: alone, behind a test of the frame's length, on one
// way only, and with a register that has its value on one way only.
func TestP5EachOperationOnEachKind(t *testing.T) {
	frames := [][]byte{nil, {0}, {255, 255, 255}, make([]byte, 16), bytes.Repeat([]byte{255}, api.MaxFrame)}
	plain, faults := 0, 0
	hold := func(c []byte, what string) {
		p, f := holdTo(t, c, frames, what)
		plain, faults = plain+btoi(p), faults+btoi(f)
	}
	for op := range 256 {
		for _, a := range operands() {
			for _, b := range operands() {
				if op >= api.Imm && b.name != "nothing" {
					continue
				}
				puts := code(a.put(4), b.put(5))
				for _, x := range variants(op, 4, 5) {
					what := fmt.Sprintf("operation %v on %s and %s", x, a.name, b.name)
					hold(code(puts, x, out(1), out(2)), what)
					hold(code(mov(0, 2), tested(16, code(puts, x, mov(6, 0))), out(1)), what+", behind a test")
					hold(code(onOneWay(true, code(puts, x, mov(6, 0))), out(1)), what+", on one way")
					hold(code(onOneWay(false, code(puts, x, mov(6, 0))), out(1)), what+", on the other way")
					hold(code(onOneWay(true, puts), x, out(1), out(2)), what+", set on one way")
				}
			}
		}
	}
	if plain < 1000 || faults < 1000 {
		t.Errorf("of all that was tried only %d are plain and %d not safe", plain, faults)
	}
}

func btoi(b bool) int {
	if b {
		return 1
	}
	return 0
}

// TestP5OneRegisterTwice: both operands in one register.
func TestP5OneRegisterTwice(t *testing.T) {
	for op := range api.Imm {
		for _, a := range operands() {
			for _, x := range variants(op, 4, 4) {
				c := code(mov(0, 2), tested(16, code(a.put(4), x, mov(6, 0))), out(1))
				holdTo(t, c, allFrames(), fmt.Sprintf("operation %v on %s twice", x, a.name))
			}
		}
	}
}

// TestP5RegistersAtFirst reads each register as it is at first.
func TestP5RegistersAtFirst(t *testing.T) {
	for register := range api.Registers {
		c := code(cp(4, register), out(1))
		if slices.Contains([]int{1, 2, 7}, register) {
			wantPlain(t, c, "a register that holds a place at first")
		} else {
			wantHarm(t, c, "a register that holds nothing at first")
		}
	}
}
