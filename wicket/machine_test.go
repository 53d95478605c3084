package wicket_test

import (
	"bytes"
	"math/rand"

	"wicket/api"
)

// The plain machine, written down as the document says it: it looks at each
// step whether it may be. What Load lets in is held to it.

type sort int

const (
	aNothing sort = iota
	aNumber
	aFramePlace
	aStackPlace
)

type value struct {
	sort   sort
	number uint64
	place  int
}

func (v value) isPlace() bool { return v.sort == aFramePlace || v.sort == aStackPlace }

type step struct {
	op       int
	imm      bool
	dst, src int
	off, num int
}

func stepsOf(c []byte) []step {
	var list []step
	for ; len(c) > 0; c = c[8:] {
		list = append(list, step{
			op:  int(c[0] & 127),
			imm: c[0] >= 128,
			dst: int(c[1] & 15),
			src: int(c[1] >> 4),
			off: int(int16(uint16(c[2]) + 256*uint16(c[3]))),
			num: int(int32(uint32(c[4]) + uint32(c[5])<<8 + uint32(c[6])<<16 + uint32(c[7])<<24)),
		})
	}
	return list
}

type machine struct {
	registers [api.Registers]value
	frame     []byte
	stack     [api.StackSize]byte
	faulted   bool
}

// runPlain is what the plain machine does with code on a frame.
func runPlain(c []byte, frame []byte) (verdict int, left []byte, faults bool) {
	m := &machine{frame: bytes.Clone(frame)}
	m.registers[1] = value{sort: aFramePlace}
	m.registers[2] = value{sort: aFramePlace, place: len(frame)}
	m.registers[7] = value{sort: aStackPlace}
	list := stepsOf(c)
	for at := 0; ; at++ {
		x := list[at]
		switch {
		case x.op <= api.Shr:
			m.work(x)
		case x.op <= api.Load8:
			m.load(x)
		case x.op <= api.Store8:
			m.store(x)
		case x.op == api.Jump:
			at += x.off
		case x.op <= api.Jle:
			if m.holds(x) {
				at += x.off
			}
		case x.op == api.Call:
			m.call(x.num)
		case x.op == api.Exit:
			v := m.number(0)
			return int(v), m.frame, m.faulted || v > 3
		}
		if m.faulted {
			return 0, nil, true
		}
	}
}

func (m *machine) fault() value {
	m.faulted = true
	return value{}
}

func (m *machine) read(register int) value {
	v := m.registers[register]
	if v.sort == aNothing {
		return m.fault()
	}
	return v
}

func (m *machine) number(register int) uint64 {
	v := m.read(register)
	if v.sort != aNumber {
		m.fault()
	}
	return v.number
}

func (m *machine) second(x step) value {
	if x.imm {
		return value{sort: aNumber, number: uint64(x.num)}
	}
	return m.read(x.src)
}

func (m *machine) work(x step) {
	b := m.second(x)
	if x.op == api.Mov {
		m.registers[x.dst] = b
		return
	}
	a := m.read(x.dst)
	switch {
	case a.sort == aNumber && b.sort == aNumber:
		m.registers[x.dst] = value{sort: aNumber, number: workedOut(x.op, a.number, b.number)}
	case x.op == api.Add && a.isPlace() && b.sort == aNumber:
		m.registers[x.dst] = m.moved(a, int64(b.number), 1)
	case x.op == api.Add && a.sort == aNumber && b.isPlace():
		m.registers[x.dst] = m.moved(b, int64(a.number), 1)
	case x.op == api.Sub && a.isPlace() && b.sort == aNumber:
		m.registers[x.dst] = m.moved(a, int64(b.number), -1)
	case x.op == api.Sub && a.isPlace() && a.sort == b.sort:
		m.registers[x.dst] = value{sort: aNumber, number: uint64(a.place - b.place)}
	default:
		m.fault()
	}
}

func workedOut(op int, a, b uint64) uint64 {
	switch op {
	case api.Add:
		return a + b
	case api.Sub:
		return a - b
	case api.Mul:
		return a * b
	case api.Div:
		if b == 0 {
			return 0
		}
		return a / b
	case api.Mod:
		if b == 0 {
			return a
		}
		return a % b
	case api.And:
		return a & b
	case api.Or:
		return a | b
	case api.Xor:
		return a ^ b
	case api.Shl:
		return a << (b % 64)
	}
	return a >> (b % 64)
}

func (m *machine) moved(v value, by int64, sign int) value {
	if by > 1<<40 || by < -1<<40 {
		return m.fault()
	}
	v.place += sign * int(by)
	if v.place > 1000 || v.place < -1000 {
		return m.fault()
	}
	return v
}

// bytesAt are the bytes of a place, or none and a fault.
func (m *machine) bytesAt(v value, off, size int) []byte {
	all, from := m.frame, v.place+off
	if v.sort == aStackPlace {
		all, from = m.stack[:], 32+v.place+off
	}
	if !v.isPlace() || from < 0 || from+size > len(all) {
		m.fault()
		return nil
	}
	return all[from : from+size]
}

func (m *machine) load(x step) {
	sum := uint64(0)
	for i, b := range m.bytesAt(m.read(x.src), x.off, 1<<(x.op-api.Load1)) {
		sum += uint64(b) << (8 * i)
	}
	m.registers[x.dst] = value{sort: aNumber, number: sum}
}

func (m *machine) store(x step) {
	n := m.number(x.src)
	list := m.bytesAt(m.read(x.dst), x.off, 1<<(x.op-api.Store1))
	for i := range list {
		list[i] = byte(n >> (8 * i))
	}
}

func (m *machine) holds(x step) bool {
	a, b := m.read(x.dst), m.second(x)
	if a.sort != b.sort {
		m.fault()
	}
	equal, less := a == b, a.number < b.number || a.place < b.place
	switch x.op {
	case api.Jeq:
		return equal
	case api.Jne:
		return !equal
	case api.Jgt:
		return !equal && !less
	case api.Jge:
		return !less
	case api.Jlt:
		return less
	}
	return less || equal
}

func (m *machine) call(num int) {
	switch num {
	case api.First:
		m.registers[0] = value{sort: aFramePlace}
	case api.Last:
		m.registers[0] = value{sort: aFramePlace, place: len(m.frame)}
	case api.Shrink:
		n, told := m.number(1), uint64(1)
		if n <= uint64(len(m.frame)) {
			m.frame, told = m.frame[n:], 0
		}
		for i, v := range m.registers {
			if v.sort == aFramePlace || i >= 1 && i <= 3 {
				m.registers[i] = value{}
			}
		}
		m.registers[0] = value{sort: aNumber, number: told}
	}
}

// allFrames has frames of each length, some with bytes that are far apart.
func allFrames() [][]byte {
	r := rand.New(rand.NewSource(5))
	var list [][]byte
	for n := range api.MaxFrame + 1 {
		some := make([]byte, n)
		r.Read(some)
		small := make([]byte, n)
		for i := range small {
			small[i] = byte(r.Intn(4))
		}
		list = append(list, make([]byte, n), bytes.Repeat([]byte{255}, n), some, small)
	}
	return list
}

// faultsOn tells whether the plain machine faults on one of the frames.
func faultsOn(c []byte, list [][]byte) bool {
	for _, frame := range list {
		if _, _, faults := runPlain(c, frame); faults {
			return true
		}
	}
	return false
}
