package known

import (
	"wicket/api"
	"wicket/registers"
	"wicket/wrong"
)

const lastVerdict = 3

// State is all that is known ahead of an instruction. The zero State is that
// of an instruction that no way leads to.
type State struct {
	Reached bool
	at      int
	values  [api.Registers + 1]Value
	// frame is how many bytes the frame has at least.
	frame int
}

// Start is what is known ahead of the instruction 0.
func Start() State {
	s := State{Reached: true}
	s.values[registers.First] = firstPlace()
	s.values[registers.End] = endPlace()
	s.values[registers.Stack] = stackEnd()
	return s
}

// Ahead is s for the instruction of this number and with this NUM, which is
// taken for its 64 bits with a sign.
func (s State) Ahead(at int, num int32) State {
	s.at = at
	return s.SetNumber(registers.Num, only(uint64(int64(num))))
}

// Or is what holds of both, where a way comes to others, or is the first.
func (s State) Or(way State) State {
	if !s.Reached {
		return way
	}
	for i, v := range way.values {
		s.values[i] = s.values[i].or(v)
	}
	s.frame = min(s.frame, way.frame)
	return s
}

// harm is what to give up with at this instruction.
func (s State) harm() wrong.Found {
	return wrong.Found{Errno: api.ErrUnsafe, At: s.at}
}

// Read is the value of a register, or NUM.
func (s State) Read(register uint8) Value {
	v := s.values[register]
	if v.kind == nothing {
		panic(s.harm())
	}
	return v
}

// ReadNumber is the number in a register.
func (s State) ReadNumber(register uint8) Numbers {
	v := s.Read(register)
	if v.kind != number {
		panic(s.harm())
	}
	return v.numbers
}

// Set is s with a value in a register.
func (s State) Set(register uint8, v Value) State {
	s.values[register] = v
	return s
}

// SetNumber is s with a number in a register.
func (s State) SetNumber(register uint8, span Numbers) State {
	return s.Set(register, numberIn(span))
}

// SetFirst is s behind a Call with First.
func (s State) SetFirst() State {
	return s.Set(registers.Verdict, firstPlace())
}

// SetLast is s behind a Call with Last.
func (s State) SetLast() State {
	return s.Set(registers.Verdict, endPlace())
}

// Shrink is s behind a Call with Shrink: of the frame nothing is known then.
func (s State) Shrink() State {
	s.ReadNumber(registers.First)
	for i, v := range s.values {
		if v.kind == framePlace || i >= registers.First && i <= registers.LastLost {
			s.values[i] = Value{}
		}
	}
	s.frame = 0
	return s.SetNumber(registers.Verdict, Numbers{Least: 0, Most: 1})
}

// Verdict gives up if register 0 is not shown to hold a verdict.
func (s State) Verdict() {
	if s.ReadNumber(registers.Verdict).Most > lastVerdict {
		panic(s.harm())
	}
}
