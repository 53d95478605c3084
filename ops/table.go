package ops

import (
	"wicket/api"
	"wicket/known"
)

// Operation is what there is to an operation.
type Operation struct {
	// Fits tells whether an instruction of this operation has the fields
	// that its row allows; it is nil where there is no operation.
	Fits func(in Instruction, behind int) bool
	// Look tells, by what is known ahead of an instruction, what is known
	// ahead of the next one and where it jumps to; it gives up if the
	// instruction may fault.
	Look func(in Instruction, s known.State) (next, jump known.State)
}

// Table has an entry for every byte that may stand for an operation, so that
// asking it needs no look at bounds.
func Table() [256]Operation {
	return [256]Operation{
		api.Mov: {Fits: fitsWork, Look: lookMov},
		api.Add: {Fits: fitsWork, Look: lookAdd},
		api.Sub: {Fits: fitsWork, Look: lookSub},
		api.Mul: {Fits: fitsWork, Look: lookNumbers(known.Mul)},
		api.Div: {Fits: fitsWork, Look: lookNumbers(known.Div)},
		api.Mod: {Fits: fitsWork, Look: lookNumbers(known.Mod)},
		api.And: {Fits: fitsWork, Look: lookNumbers(known.And)},
		api.Or:  {Fits: fitsWork, Look: lookNumbers(known.Or)},
		api.Xor: {Fits: fitsWork, Look: lookNumbers(known.Xor)},
		api.Shl: {Fits: fitsWork, Look: lookNumbers(known.Shl)},
		api.Shr: {Fits: fitsWork, Look: lookNumbers(known.Shr)},

		api.Mov + api.Imm: {Fits: fitsWorkNum, Look: lookMov},
		api.Add + api.Imm: {Fits: fitsWorkNum, Look: lookAdd},
		api.Sub + api.Imm: {Fits: fitsWorkNum, Look: lookSub},
		api.Mul + api.Imm: {Fits: fitsWorkNum, Look: lookNumbers(known.Mul)},
		api.Div + api.Imm: {Fits: fitsWorkNum, Look: lookNumbers(known.Div)},
		api.Mod + api.Imm: {Fits: fitsWorkNum, Look: lookNumbers(known.Mod)},
		api.And + api.Imm: {Fits: fitsWorkNum, Look: lookNumbers(known.And)},
		api.Or + api.Imm:  {Fits: fitsWorkNum, Look: lookNumbers(known.Or)},
		api.Xor + api.Imm: {Fits: fitsWorkNum, Look: lookNumbers(known.Xor)},
		api.Shl + api.Imm: {Fits: fitsWorkNum, Look: lookNumbers(known.Shl)},
		api.Shr + api.Imm: {Fits: fitsWorkNum, Look: lookNumbers(known.Shr)},

		api.Load1:  {Fits: fitsLoad, Look: lookLoad(1)},
		api.Load2:  {Fits: fitsLoad, Look: lookLoad(2)},
		api.Load4:  {Fits: fitsLoad, Look: lookLoad(4)},
		api.Load8:  {Fits: fitsLoad, Look: lookLoad(8)},
		api.Store1: {Fits: fitsStore, Look: lookStore(1)},
		api.Store2: {Fits: fitsStore, Look: lookStore(2)},
		api.Store4: {Fits: fitsStore, Look: lookStore(4)},
		api.Store8: {Fits: fitsStore, Look: lookStore(8)},

		api.Jump: {Fits: fitsJump, Look: lookJump},
		api.Jeq:  {Fits: fitsCompare, Look: lookCompare(known.Equal, known.NotEqual)},
		api.Jne:  {Fits: fitsCompare, Look: lookCompare(known.NotEqual, known.Equal)},
		api.Jgt:  {Fits: fitsCompare, Look: lookCompare(known.Greater, known.NotGreater)},
		api.Jge:  {Fits: fitsCompare, Look: lookCompare(known.NotLess, known.Less)},
		api.Jlt:  {Fits: fitsCompare, Look: lookCompare(known.Less, known.NotLess)},
		api.Jle:  {Fits: fitsCompare, Look: lookCompare(known.NotGreater, known.Greater)},

		api.Jeq + api.Imm: {Fits: fitsCompareNum, Look: lookCompare(known.Equal, known.NotEqual)},
		api.Jne + api.Imm: {Fits: fitsCompareNum, Look: lookCompare(known.NotEqual, known.Equal)},
		api.Jgt + api.Imm: {Fits: fitsCompareNum, Look: lookCompare(known.Greater, known.NotGreater)},
		api.Jge + api.Imm: {Fits: fitsCompareNum, Look: lookCompare(known.NotLess, known.Less)},
		api.Jlt + api.Imm: {Fits: fitsCompareNum, Look: lookCompare(known.Less, known.NotLess)},
		api.Jle + api.Imm: {Fits: fitsCompareNum, Look: lookCompare(known.NotGreater, known.Greater)},

		api.Call: {Fits: fitsCall, Look: lookCall},
		api.Exit: {Fits: fitsExit, Look: lookExit},
	}
}
