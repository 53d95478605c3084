// Package registers: which registers there is more to than their number.
package registers

import "wicket/api"

const (
	// Verdict is where Exit finds the verdict, and where Call tells something.
	Verdict = 0
	// First holds the frame's first place at first; Shrink goes by it.
	First = 1
	// End holds the frame's end at first.
	End = 2
	// Behind a Shrink the registers from First to LastLost hold nothing.
	LastLost = 3
	// Stack holds the stack's end, always.
	Stack = 7
	// Num is where NUM is found: it lies behind the registers, so that what
	// works on two registers works on one and NUM as well.
	Num = api.Registers
)
