// Package machine: the machine that carries out code that was let in. What
// was shown of the code ahead of time it takes for granted, and does not look
// at again: neither at kinds of values, nor whether a place may be read.
package machine

import (
	"bytes"

	"wicket/api"
	"wicket/registers"
)

// A place is kept as a number: how many bytes it lies behind the first one of
// the memory, and MaxPlace more, so that none is below 0. What is worked out
// of places, or compared, then comes out as it does for numbers.
const (
	firstOfMemory = api.MaxPlace
	stackEnd      = firstOfMemory + api.StackSize
)

// Machine is all that there is while code is carried out.
type Machine struct {
	// Values are those of the registers, and NUM.
	Values [api.Registers + 1]uint64
	// memory is the stack and, behind it, the frame.
	memory [api.StackSize + api.MaxFrame]byte
	// first and end are the frame's first place and its end.
	first, end uint64
}

// Start is the machine ahead of the instruction 0, with a copy of a frame
// that has at most MaxFrame bytes.
func Start(frame []byte) *Machine {
	m := &Machine{first: stackEnd, end: stackEnd + uint64(len(frame))}
	copy(m.memory[api.StackSize:], frame)
	m.Values[registers.First] = m.first
	m.Values[registers.End] = m.end
	m.Values[registers.Stack] = stackEnd
	return m
}

// Ahead makes NUM known to the instruction that comes next, as its 64 bits
// with a sign.
func (m *Machine) Ahead(num int32) {
	m.Values[registers.Num] = uint64(int64(num))
}

// bytesAt are so many bytes from off behind the place in a register on.
func (m *Machine) bytesAt(register uint8, off int16, size int) []byte {
	from := int(m.Values[register]) + int(off) - firstOfMemory
	return m.memory[from : from+size]
}

// Load is the number in so many bytes, the low byte first.
func (m *Machine) Load(register uint8, off int16, size int) uint64 {
	n := uint64(0)
	for i, b := range m.bytesAt(register, off, size) {
		n |= uint64(b) << (8 * i)
	}
	return n
}

// Store puts so many low bytes of a number, the low byte first.
func (m *Machine) Store(register uint8, off int16, size int, n uint64) {
	list := m.bytesAt(register, off, size)
	for i := range list {
		list[i] = byte(n >> (8 * i))
	}
}

// First tells the frame's first place.
func (m *Machine) First() { m.Values[registers.Verdict] = m.first }

// Last tells the frame's end.
func (m *Machine) Last() { m.Values[registers.Verdict] = m.end }

// Shrink takes first bytes from the frame, if it has so many. What holds
// nothing then is left as it is, since it is never read.
func (m *Machine) Shrink() {
	by := m.Values[registers.First]
	if by > m.end-m.first {
		m.Values[registers.Verdict] = 1
		return
	}
	m.first += by
	m.Values[registers.Verdict] = 0
}

// Verdict is what an Exit finds.
func (m *Machine) Verdict() int { return int(m.Values[registers.Verdict]) }

// Frame is a copy of the frame as it is left.
func (m *Machine) Frame() []byte {
	return bytes.Clone(m.memory[m.first-firstOfMemory : m.end-firstOfMemory])
}
