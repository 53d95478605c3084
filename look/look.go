// Package look: looks at code ahead of time, and gives up by a panic with what is wrong.
package look

import (
	"wicket/api"
	"wicket/known"
	"wicket/ops"
	"wicket/wrong"
)

// Shape takes code apart. It gives up on code that has a wrong length, or an
// instruction that is none or stands where it may not (P3, P4).
func Shape(code []byte) []ops.Instruction {
	length(code)
	table := ops.Table()
	list := ops.Decode(code)
	for at, in := range list {
		instruction(table[in.Op], in, at, len(list)-1-at)
	}
	return list
}

func length(code []byte) {
	if len(code) == 0 || len(code)%ops.Size != 0 || len(code)/ops.Size > api.MaxCode {
		panic(wrong.Found{Errno: api.ErrLength, At: 0})
	}
}

func instruction(operation ops.Operation, in ops.Instruction, at, behind int) {
	if operation.Fits == nil || !operation.Fits(in, behind) {
		panic(wrong.Found{Errno: api.ErrCode, At: at})
	}
	if behind == 0 && in.Op != api.Exit {
		panic(wrong.Found{Errno: api.ErrCode, At: at})
	}
}

// Safe gives up on code, of a right shape, that is not shown to be safe (P5).
// Since no jump goes back, all ways to an instruction are known when its turn
// comes.
func Safe(list []ops.Instruction) {
	table := ops.Table()
	states := make([]known.State, len(list))
	states[0] = known.Start()
	for at, in := range list {
		if !states[at].Reached {
			continue
		}
		next, jump := table[in.Op].Look(in, states[at].Ahead(at, in.Num))
		meet(states, at+1, next)
		meet(states, at+1+int(in.Off), jump)
	}
}

// meet puts a way to those that came to an instruction; a way that leads
// nowhere may name one that is none.
func meet(states []known.State, at int, s known.State) {
	if s.Reached {
		states[at] = states[at].Or(s)
	}
}
