package ops

import (
	"wicket/api"
	"wicket/known"
	"wicket/machine"
)

// Operation is what there is to an operation.
type Operation struct {
	// Fits tells whether an instruction of this operation has the fields
	// that its row allows; it is nil where there is no operation.
	Fits func(in Instruction, behind int) bool
	// Look tells, by what is known ahead of an instruction, what is known
	// ahead of the next one and where it jumps to; it gives up if the
	// instruction may fault.
	Look func(in Instruction, s known.State) (next, jump known.State)
	// Do carries an instruction out, and tells how many of those behind it
	// are left out; it looks at nothing that Look has shown.
	Do func(in Instruction, m *machine.Machine) (over int)
}

// Table has an entry for every byte that may stand for an operation, so that
// asking it needs no look at bounds.
func Table() [256]Operation {
	return [256]Operation{
		api.Mov: {Fits: fitsWork, Look: lookMov, Do: doMov},
		api.Add: {Fits: fitsWork, Look: lookAdd, Do: doWork(machine.Add)},
		api.Sub: {Fits: fitsWork, Look: lookSub, Do: doWork(machine.Sub)},
		api.Mul: {Fits: fitsWork, Look: lookNumbers(known.Mul), Do: doWork(machine.Mul)},
		api.Div: {Fits: fitsWork, Look: lookNumbers(known.Div), Do: doWork(machine.Div)},
		api.Mod: {Fits: fitsWork, Look: lookNumbers(known.Mod), Do: doWork(machine.Mod)},
		api.And: {Fits: fitsWork, Look: lookNumbers(known.And), Do: doWork(machine.And)},
		api.Or:  {Fits: fitsWork, Look: lookNumbers(known.Or), Do: doWork(machine.Or)},
		api.Xor: {Fits: fitsWork, Look: lookNumbers(known.Xor), Do: doWork(machine.Xor)},
		api.Shl: {Fits: fitsWork, Look: lookNumbers(known.Shl), Do: doWork(machine.Shl)},
		api.Shr: {Fits: fitsWork, Look: lookNumbers(known.Shr), Do: doWork(machine.Shr)},

		api.Mov + api.Imm: {Fits: fitsWorkNum, Look: lookMov, Do: doMov},
		api.Add + api.Imm: {Fits: fitsWorkNum, Look: lookAdd, Do: doWork(machine.Add)},
		api.Sub + api.Imm: {Fits: fitsWorkNum, Look: lookSub, Do: doWork(machine.Sub)},
		api.Mul + api.Imm: {Fits: fitsWorkNum, Look: lookNumbers(known.Mul), Do: doWork(machine.Mul)},
		api.Div + api.Imm: {Fits: fitsWorkNum, Look: lookNumbers(known.Div), Do: doWork(machine.Div)},
		api.Mod + api.Imm: {Fits: fitsWorkNum, Look: lookNumbers(known.Mod), Do: doWork(machine.Mod)},
		api.And + api.Imm: {Fits: fitsWorkNum, Look: lookNumbers(known.And), Do: doWork(machine.And)},
		api.Or + api.Imm:  {Fits: fitsWorkNum, Look: lookNumbers(known.Or), Do: doWork(machine.Or)},
		api.Xor + api.Imm: {Fits: fitsWorkNum, Look: lookNumbers(known.Xor), Do: doWork(machine.Xor)},
		api.Shl + api.Imm: {Fits: fitsWorkNum, Look: lookNumbers(known.Shl), Do: doWork(machine.Shl)},
		api.Shr + api.Imm: {Fits: fitsWorkNum, Look: lookNumbers(known.Shr), Do: doWork(machine.Shr)},

		api.Load1:  {Fits: fitsLoad, Look: lookLoad(1), Do: doLoad(1)},
		api.Load2:  {Fits: fitsLoad, Look: lookLoad(2), Do: doLoad(2)},
		api.Load4:  {Fits: fitsLoad, Look: lookLoad(4), Do: doLoad(4)},
		api.Load8:  {Fits: fitsLoad, Look: lookLoad(8), Do: doLoad(8)},
		api.Store1: {Fits: fitsStore, Look: lookStore(1), Do: doStore(1)},
		api.Store2: {Fits: fitsStore, Look: lookStore(2), Do: doStore(2)},
		api.Store4: {Fits: fitsStore, Look: lookStore(4), Do: doStore(4)},
		api.Store8: {Fits: fitsStore, Look: lookStore(8), Do: doStore(8)},

		api.Jump: {Fits: fitsJump, Look: lookJump, Do: doJump},
		api.Jeq:  {Fits: fitsCompare, Look: lookCompare(known.Equal, known.NotEqual), Do: doCompare(machine.Equal)},
		api.Jne:  {Fits: fitsCompare, Look: lookCompare(known.NotEqual, known.Equal), Do: doCompare(machine.NotEqual)},
		api.Jgt:  {Fits: fitsCompare, Look: lookCompare(known.Greater, known.NotGreater), Do: doCompare(machine.Greater)},
		api.Jge:  {Fits: fitsCompare, Look: lookCompare(known.NotLess, known.Less), Do: doCompare(machine.NotLess)},
		api.Jlt:  {Fits: fitsCompare, Look: lookCompare(known.Less, known.NotLess), Do: doCompare(machine.Less)},
		api.Jle:  {Fits: fitsCompare, Look: lookCompare(known.NotGreater, known.Greater), Do: doCompare(machine.NotGreater)},

		api.Jeq + api.Imm: {Fits: fitsCompareNum, Look: lookCompare(known.Equal, known.NotEqual), Do: doCompare(machine.Equal)},
		api.Jne + api.Imm: {Fits: fitsCompareNum, Look: lookCompare(known.NotEqual, known.Equal), Do: doCompare(machine.NotEqual)},
		api.Jgt + api.Imm: {Fits: fitsCompareNum, Look: lookCompare(known.Greater, known.NotGreater), Do: doCompare(machine.Greater)},
		api.Jge + api.Imm: {Fits: fitsCompareNum, Look: lookCompare(known.NotLess, known.Less), Do: doCompare(machine.NotLess)},
		api.Jlt + api.Imm: {Fits: fitsCompareNum, Look: lookCompare(known.Less, known.NotLess), Do: doCompare(machine.Less)},
		api.Jle + api.Imm: {Fits: fitsCompareNum, Look: lookCompare(known.NotGreater, known.Greater), Do: doCompare(machine.NotGreater)},

		api.Call: {Fits: fitsCall, Look: lookCall, Do: doCall},
		api.Exit: {Fits: fitsExit, Look: lookExit, Do: doExit},
	}
}
