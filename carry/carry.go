// Package carry: goes through code that was let in, and carries it out.
package carry

import (
	"wicket/machine"
	"wicket/ops"
)

// Out is the verdict on a frame, and the frame as it is left. Since no
// instruction goes back, it ends.
func Out(list []ops.Instruction, frame []byte) (verdict int, left []byte) {
	table := ops.Table()
	m := machine.Start(frame)
	for at := 0; at < len(list); {
		in := list[at]
		m.Ahead(in.Num)
		at += 1 + table[in.Op].Do(in, m)
	}
	return m.Verdict(), m.Frame()
}
