package ops

import (
	"wicket/api"
	"wicket/known"
)

type look = func(in Instruction, s known.State) (next, jump known.State)

type relation = func(s known.State, a, b uint8) known.State

// nowhere stands for a side on which an instruction never goes on.
func nowhere() known.State { return known.State{} }

func lookMov(in Instruction, s known.State) (next, jump known.State) {
	return s.Set(in.Dst, s.Read(in.second())), nowhere()
}

func lookAdd(in Instruction, s known.State) (next, jump known.State) {
	return s.Set(in.Dst, s.Sum(in.Dst, in.second())), nowhere()
}

func lookSub(in Instruction, s known.State) (next, jump known.State) {
	return s.Set(in.Dst, s.Difference(in.Dst, in.second())), nowhere()
}

func lookNumbers(work func(a, b known.Numbers) known.Numbers) look {
	return func(in Instruction, s known.State) (next, jump known.State) {
		result := work(s.ReadNumber(in.Dst), s.ReadNumber(in.second()))
		return s.SetNumber(in.Dst, result), nowhere()
	}
}

func lookLoad(size int) look {
	return func(in Instruction, s known.State) (next, jump known.State) {
		s.Reach(in.Src, in.Off, size)
		return s.SetNumber(in.Dst, known.NumbersOf(size)), nowhere()
	}
}

func lookStore(size int) look {
	return func(in Instruction, s known.State) (next, jump known.State) {
		s.Reach(in.Dst, in.Off, size)
		s.ReadNumber(in.Src)
		return s, nowhere()
	}
}

func lookJump(in Instruction, s known.State) (next, jump known.State) {
	return nowhere(), s
}

func lookCompare(jumps, passes relation) look {
	return func(in Instruction, s known.State) (next, jump known.State) {
		s.Alike(in.Dst, in.second())
		return passes(s, in.Dst, in.second()), jumps(s, in.Dst, in.second())
	}
}

func lookCall(in Instruction, s known.State) (next, jump known.State) {
	switch in.Num {
	case api.First:
		return s.SetFirst(), nowhere()
	case api.Last:
		return s.SetLast(), nowhere()
	}
	return s.Shrink(), nowhere()
}

func lookExit(in Instruction, s known.State) (next, jump known.State) {
	s.Verdict()
	return nowhere(), nowhere()
}
