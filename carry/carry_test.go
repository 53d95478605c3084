package carry

import (
	"bytes"
	"testing"

	"wicket/api"
	"wicket/ops"
)

func set(n int32) ops.Instruction {
	return ops.Instruction{Op: api.Mov + api.Imm, Num: n}
}

func jump(over int16) ops.Instruction {
	return ops.Instruction{Op: api.Jump, Off: over}
}

func TestOut(t *testing.T) {
	end := ops.Instruction{Op: api.Exit}
	for _, c := range []struct {
		name string
		list []ops.Instruction
		want int
	}{
		{"one behind the other", []ops.Instruction{set(1), set(2), end}, 2},
		{"an Exit among others", []ops.Instruction{set(1), end, set(2), end}, 1},
		{"a jump over nothing", []ops.Instruction{set(1), jump(0), set(2), end}, 2},
		{"a jump over one", []ops.Instruction{set(1), jump(1), set(2), end}, 1},
		{"a jump over two", []ops.Instruction{set(1), jump(2), set(2), end, set(3), end}, 3},
		{"two jumps", []ops.Instruction{set(1), jump(1), set(2), jump(1), set(3), end}, 1},
	} {
		frame := []byte{5, 6, 7}
		if verdict, left := Out(c.list, frame); verdict != c.want || !bytes.Equal(left, frame) {
			t.Errorf("%s: verdict %d, left %v, want %d", c.name, verdict, left, c.want)
		}
	}
}

// TestOutOfLongCode: the first Exit ends code of any length.
func TestOutOfLongCode(t *testing.T) {
	list := []ops.Instruction{set(1), {Op: api.Exit}}
	for len(list) < api.MaxCode-1 {
		list = append(list, set(2))
	}
	if verdict, _ := Out(append(list, ops.Instruction{Op: api.Exit}), nil); verdict != 1 {
		t.Errorf("verdict %d, want 1", verdict)
	}
}
