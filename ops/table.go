package ops

import "wicket/api"

// Operation is what is known of an operation.
type Operation struct {
	// Fits tells whether an instruction of this operation has the fields
	// that its row allows; it is nil where there is no operation.
	Fits func(in Instruction, behind int) bool
}

// Table has an entry for every byte that may stand for an operation, so that
// asking it needs no look at bounds.
func Table() [256]Operation {
	return [256]Operation{
		api.Mov: {Fits: fitsWork},
		api.Add: {Fits: fitsWork},
		api.Sub: {Fits: fitsWork},
		api.Mul: {Fits: fitsWork},
		api.Div: {Fits: fitsWork},
		api.Mod: {Fits: fitsWork},
		api.And: {Fits: fitsWork},
		api.Or:  {Fits: fitsWork},
		api.Xor: {Fits: fitsWork},
		api.Shl: {Fits: fitsWork},
		api.Shr: {Fits: fitsWork},

		api.Mov + api.Imm: {Fits: fitsWorkNum},
		api.Add + api.Imm: {Fits: fitsWorkNum},
		api.Sub + api.Imm: {Fits: fitsWorkNum},
		api.Mul + api.Imm: {Fits: fitsWorkNum},
		api.Div + api.Imm: {Fits: fitsWorkNum},
		api.Mod + api.Imm: {Fits: fitsWorkNum},
		api.And + api.Imm: {Fits: fitsWorkNum},
		api.Or + api.Imm:  {Fits: fitsWorkNum},
		api.Xor + api.Imm: {Fits: fitsWorkNum},
		api.Shl + api.Imm: {Fits: fitsWorkNum},
		api.Shr + api.Imm: {Fits: fitsWorkNum},

		api.Load1:  {Fits: fitsLoad},
		api.Load2:  {Fits: fitsLoad},
		api.Load4:  {Fits: fitsLoad},
		api.Load8:  {Fits: fitsLoad},
		api.Store1: {Fits: fitsStore},
		api.Store2: {Fits: fitsStore},
		api.Store4: {Fits: fitsStore},
		api.Store8: {Fits: fitsStore},

		api.Jump: {Fits: fitsJump},
		api.Jeq:  {Fits: fitsCompare},
		api.Jne:  {Fits: fitsCompare},
		api.Jgt:  {Fits: fitsCompare},
		api.Jge:  {Fits: fitsCompare},
		api.Jlt:  {Fits: fitsCompare},
		api.Jle:  {Fits: fitsCompare},

		api.Jeq + api.Imm: {Fits: fitsCompareNum},
		api.Jne + api.Imm: {Fits: fitsCompareNum},
		api.Jgt + api.Imm: {Fits: fitsCompareNum},
		api.Jge + api.Imm: {Fits: fitsCompareNum},
		api.Jlt + api.Imm: {Fits: fitsCompareNum},
		api.Jle + api.Imm: {Fits: fitsCompareNum},

		api.Call: {Fits: fitsCall},
		api.Exit: {Fits: fitsExit},
	}
}
