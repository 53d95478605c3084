package look

import (
	"bytes"
	"math/rand"
	"testing"

	"wicket/api"
	"wicket/ops"
	"wicket/wrong"
)

func found(errno api.Errno, at int) wrong.Found {
	return wrong.Found{Errno: errno, At: at}
}

// thrownBy is what a function panics with, or nil.
func thrownBy(do func()) (what any) {
	defer func() { what = recover() }()
	do()
	return nil
}

// thrown is what Shape panics with, or nil.
func thrown(code []byte) any {
	return thrownBy(func() { Shape(code) })
}

func TestShapeThrowsFoundAlone(t *testing.T) {
	exit := []byte{api.Exit, 0, 0, 0, 0, 0, 0, 0}
	for _, c := range []struct {
		code []byte
		want any
	}{
		{nil, found(api.ErrLength, 0)},
		{exit[:7], found(api.ErrLength, 0)},
		{bytes.Repeat(exit, api.MaxCode+1), found(api.ErrLength, 0)},
		{bytes.Repeat(exit, api.MaxCode), nil},
		{make([]byte, 8), found(api.ErrCode, 0)},
		{bytes.Join([][]byte{exit, make([]byte, 8), exit}, nil), found(api.ErrCode, 1)},
		{bytes.Join([][]byte{exit, {api.Jump, 0, 0, 0, 0, 0, 0, 0}}, nil), found(api.ErrCode, 1)},
	} {
		if got := thrown(c.code); got != c.want {
			t.Errorf("Shape of %d bytes: %v, want %v", len(c.code), got, c.want)
		}
	}
}

// TestShapeOfEachByte changes each byte of right code to each value.
func TestShapeOfEachByte(t *testing.T) {
	right := bytes.Join([][]byte{{api.Jump, 0, 0, 0, 0, 0, 0, 0}, {api.Call, 0, 0, 0, 1, 0, 0, 0}, {api.Exit, 0, 0, 0, 0, 0, 0, 0}}, nil)
	for at := range right {
		for b := range 256 {
			code := bytes.Clone(right)
			code[at] = byte(b)
			switch what := thrown(code).(type) {
			case nil:
			case wrong.Found:
				if what != found(api.ErrCode, at/8) {
					t.Errorf("Shape(%v): %v", code, what)
				}
			default:
				t.Errorf("Shape(%v) threw %v", code, what)
			}
		}
	}
}

// randomRight is code of a right shape.
func randomRight(r *rand.Rand, table [256]ops.Operation) []ops.Instruction {
	list := make([]ops.Instruction, 1+r.Intn(api.MaxCode))
	for at := range list {
		in := ops.Instruction{Op: api.Exit}
		for at < len(list)-1 {
			in = ops.Instruction{Op: uint8(r.Intn(256)), Dst: uint8(r.Intn(8)), Src: uint8(r.Intn(8) * r.Intn(2)), Off: int16(r.Intn(8) * r.Intn(2)), Num: int32(r.Intn(5) * r.Intn(2))}
			if fits := table[in.Op].Fits; fits != nil && fits(in, len(list)-1-at) {
				break
			}
		}
		list[at] = in
	}
	return list
}

// TestSafeThrowsFoundAlone: whatever the code, nothing else is thrown.
func TestSafeThrowsFoundAlone(t *testing.T) {
	r := rand.New(rand.NewSource(3))
	table := ops.Table()
	for range 20000 {
		list := randomRight(r, table)
		switch what := thrownBy(func() { Safe(list) }).(type) {
		case nil:
		case wrong.Found:
			if what.Errno != api.ErrUnsafe || what.At < 0 || what.At >= len(list) {
				t.Errorf("Safe(%v) threw %v", list, what)
			}
		default:
			t.Errorf("Safe(%v) threw %v", list, what)
		}
	}
}

// TestSafeTellsWhere: what is told is the number of the instruction that may fault.
func TestSafeTellsWhere(t *testing.T) {
	set := ops.Instruction{Op: api.Mov + api.Imm}
	end := ops.Instruction{Op: api.Exit}
	for _, harm := range []ops.Instruction{
		{Op: api.Mov, Dst: 4, Src: 5},
		{Op: api.Add, Dst: 1, Src: 2},
		{Op: api.Sub, Dst: 0, Src: 1},
		{Op: api.Add + api.Imm, Dst: 1, Num: 1001},
		{Op: api.Mul + api.Imm, Dst: 1, Num: 1},
		{Op: api.Load1, Dst: 4, Src: 1},
		{Op: api.Store1, Dst: 7, Src: 1, Off: -8},
		{Op: api.Jeq + api.Imm, Dst: 1},
		{Op: api.Jlt, Dst: 1, Src: 7},
		{Op: api.Call, Num: api.Shrink},
	} {
		for at := 1; at < 6; at++ {
			list := []ops.Instruction{set, set, set, set, set, set, end}
			list[at] = harm
			if got := thrownBy(func() { Safe(list) }); got != found(api.ErrUnsafe, at) {
				t.Errorf("Safe with %v at %d: %v", harm, at, got)
			}
		}
	}
	if got := thrownBy(func() { Safe([]ops.Instruction{end}) }); got != found(api.ErrUnsafe, 0) {
		t.Errorf("Safe of an Exit alone: %v", got)
	}
}
