package ops

import "wicket/api"

const (
	lastRegister = api.Registers - 1
	// The last register always tells where the stack ends, so no operation sets it.
	lastToSet = lastRegister - 1
)

// The functions below are the rows of the document's table: whether the
// fields of an instruction are what its row allows. behind is how many
// instructions stand behind it, which bounds how far it may jump.

func fitsWork(in Instruction, behind int) bool {
	return in.Dst <= lastToSet && in.Src <= lastRegister && in.Off == 0 && in.Num == 0
}

func fitsWorkNum(in Instruction, behind int) bool {
	return in.Dst <= lastToSet && in.Src == 0 && in.Off == 0
}

func fitsLoad(in Instruction, behind int) bool {
	return in.Dst <= lastToSet && in.Src <= lastRegister && in.Num == 0
}

func fitsStore(in Instruction, behind int) bool {
	return in.Dst <= lastRegister && in.Src <= lastRegister && in.Num == 0
}

func fitsJump(in Instruction, behind int) bool {
	return in.Dst == 0 && in.Src == 0 && in.Num == 0 && leapFits(in.Off, behind)
}

func fitsCompare(in Instruction, behind int) bool {
	return in.Dst <= lastRegister && in.Src <= lastRegister && in.Num == 0 && leapFits(in.Off, behind)
}

func fitsCompareNum(in Instruction, behind int) bool {
	return in.Dst <= lastRegister && in.Src == 0 && leapFits(in.Off, behind)
}

func fitsCall(in Instruction, behind int) bool {
	return in.Dst == 0 && in.Src == 0 && in.Off == 0 && in.Num >= api.Shrink && in.Num <= api.Last
}

func fitsExit(in Instruction, behind int) bool {
	return in.Dst == 0 && in.Src == 0 && in.Off == 0 && in.Num == 0
}

func leapFits(off int16, behind int) bool {
	return off >= 0 && int(off) < behind
}
