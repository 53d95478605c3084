// Package ops: instructions, and the table of the operations.
package ops

import (
	"wicket/api"
	"wicket/registers"
)

// Size is how many bytes an instruction has.
const Size = 8

// Instruction is one instruction, taken apart.
type Instruction struct {
	Op, Dst, Src uint8
	Off          int16
	Num          int32
}

// second is where the second value that is worked with is found: in the
// register src, or where NUM is.
func (in Instruction) second() uint8 {
	if in.Op >= api.Imm {
		return registers.Num
	}
	return in.Src
}

// Decode takes code apart; bytes at the end that make no whole instruction are left out.
func Decode(code []byte) []Instruction {
	list := make([]Instruction, 0, len(code)/Size)
	for ; len(code) >= Size; code = code[Size:] {
		list = append(list, decodeOne([Size]byte(code)))
	}
	return list
}

func decodeOne(b [Size]byte) Instruction {
	return Instruction{
		Op:  b[0],
		Dst: b[1] & 15,
		Src: b[1] >> 4,
		Off: int16(uint16(b[2]) | uint16(b[3])<<8),
		Num: int32(uint32(b[4]) | uint32(b[5])<<8 | uint32(b[6])<<16 | uint32(b[7])<<24),
	}
}
