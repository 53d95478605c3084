package ops

import (
	"math"
	"slices"
	"testing"
)

func TestDecode(t *testing.T) {
	for _, c := range []struct {
		code []byte
		want []Instruction
	}{
		{nil, nil},
		{[]byte{1, 2, 3, 4, 5, 6, 7}, nil},
		{[]byte{129, 0x52, 1, 2, 1, 2, 3, 4}, []Instruction{{129, 2, 5, 0x201, 0x4030201}}},
		{[]byte{255, 255, 255, 255, 255, 255, 255, 255}, []Instruction{{255, 15, 15, -1, -1}}},
		{[]byte{0, 0, 0, 128, 0, 0, 0, 128}, []Instruction{{0, 0, 0, math.MinInt16, math.MinInt32}}},
		{[]byte{0, 0, 255, 127, 255, 255, 255, 127}, []Instruction{{0, 0, 0, math.MaxInt16, math.MaxInt32}}},
		{[]byte{1, 0, 0, 0, 0, 0, 0, 0, 2, 0, 0, 0, 0, 0, 0, 0, 3}, []Instruction{{Op: 1}, {Op: 2}}},
	} {
		if got := Decode(c.code); !slices.Equal(got, c.want) {
			t.Errorf("Decode(%v): %v, want %v", c.code, got, c.want)
		}
	}
}

func TestTableHasOperationsAlone(t *testing.T) {
	count := 0
	for op, operation := range Table() {
		if operation.Fits != nil {
			count++
		}
		if (operation.Fits == nil) != (operation.Look == nil) || (operation.Fits == nil) != (operation.Do == nil) {
			t.Errorf("the operation %d has not all of its functions", op)
		}
	}
	if count != 45 {
		t.Errorf("the table has %d operations, want 28 and 17 with Imm", count)
	}
}
