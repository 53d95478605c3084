package ops

import (
	"wicket/api"
	"wicket/machine"
)

type do = func(in Instruction, m *machine.Machine) (over int)

func doMov(in Instruction, m *machine.Machine) (over int) {
	m.Values[in.Dst] = m.Values[in.second()]
	return 0
}

func doWork(work func(a, b uint64) uint64) do {
	return func(in Instruction, m *machine.Machine) (over int) {
		m.Values[in.Dst] = work(m.Values[in.Dst], m.Values[in.second()])
		return 0
	}
}

func doLoad(size int) do {
	return func(in Instruction, m *machine.Machine) (over int) {
		m.Values[in.Dst] = m.Load(in.Src, in.Off, size)
		return 0
	}
}

func doStore(size int) do {
	return func(in Instruction, m *machine.Machine) (over int) {
		m.Store(in.Dst, in.Off, size, m.Values[in.Src])
		return 0
	}
}

func doJump(in Instruction, m *machine.Machine) (over int) {
	return int(in.Off)
}

func doCompare(holds func(a, b uint64) bool) do {
	return func(in Instruction, m *machine.Machine) (over int) {
		if holds(m.Values[in.Dst], m.Values[in.second()]) {
			return int(in.Off)
		}
		return 0
	}
}

func doCall(in Instruction, m *machine.Machine) (over int) {
	switch in.Num {
	case api.First:
		m.First()
	case api.Last:
		m.Last()
	default:
		m.Shrink()
	}
	return 0
}

// doExit leaves out whatever stands behind it.
func doExit(in Instruction, m *machine.Machine) (over int) {
	return api.MaxCode
}
