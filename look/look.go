// Package look: whoever looks at code ahead of time, and gives up by a panic with what is wrong.
package look

import (
	"wicket/api"
	"wicket/ops"
)

// Wrong is what the functions here panic with, and the only thing.
type Wrong struct {
	Errno api.Errno
	At    int
}

func giveUp(errno api.Errno, at int) {
	panic(Wrong{Errno: errno, At: at})
}

// Shape gives up on code that has a wrong length, or an instruction that is
// none or stands where it may not (P3, P4).
func Shape(code []byte) {
	length(code)
	table := ops.Table()
	list := ops.Decode(code)
	for at, in := range list {
		instruction(table[in.Op], in, at, len(list)-1-at)
	}
}

func length(code []byte) {
	if len(code) == 0 || len(code)%ops.Size != 0 || len(code)/ops.Size > api.MaxCode {
		giveUp(api.ErrLength, 0)
	}
}

func instruction(operation ops.Operation, in ops.Instruction, at, behind int) {
	if operation.Fits == nil || !operation.Fits(in, behind) {
		giveUp(api.ErrCode, at)
	}
	if behind == 0 && in.Op != api.Exit {
		giveUp(api.ErrCode, at)
	}
}
