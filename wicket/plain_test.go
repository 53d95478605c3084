package wicket_test

import (
	"wicket/api"
)

// What is plain, written down as the document says it: over all ways, each
// for itself. What is plain here Load must let in.

type sortOfKind int

const (
	kNothing sortOfKind = iota
	kNumber
	kFirst
	kStack
	kEnd
)

type kind struct {
	sort sortOfKind
	k    int
}

// way is all that matters of a way that came to an instruction.
type way struct {
	registers [api.Registers]kind
	// tested is how many bytes of the frame a Jgt has shown to be there.
	tested int
	// given: a Mov has put a verdict into register 0.
	given bool
}

func firstWay() way {
	var w way
	w.registers[1] = kind{sort: kFirst}
	w.registers[2] = kind{sort: kEnd}
	w.registers[7] = kind{sort: kStack}
	return w
}

// ways are those that came to an instruction, each once.
type ways map[way]struct{}

func (l ways) put(w way) { l[w] = struct{}{} }

func (l ways) putAll(more ways) {
	for w := range more {
		l.put(w)
	}
}

// isPlain tells whether code is plain.
func isPlain(c []byte) bool {
	list := stepsOf(c)
	at := make([]ways, len(list)+1)
	for i := range at {
		at[i] = ways{}
	}
	at[0].put(firstWay())
	for i, x := range list {
		next, jump, is := allOn(at[i], x)
		if !is {
			return false
		}
		at[i+1].putAll(next)
		if len(jump) > 0 {
			at[i+1+x.off].putAll(jump)
		}
	}
	return true
}

// allOn goes one step on each way; false, if that is not plain.
func allOn(list ways, x step) (next, jump ways, is bool) {
	next, jump = ways{}, ways{}
	read := map[int]kind{}
	for w := range list {
		for _, register := range readBy(x) {
			k, seen := read[register]
			if seen && k != w.registers[register] || w.registers[register].sort == kNothing {
				return nil, nil, false
			}
			read[register] = w.registers[register]
		}
		on, goesOn, jumps, is := w.on(x)
		if !is {
			return nil, nil, false
		}
		if goesOn {
			next.put(on)
		}
		if jumps {
			jump.put(w)
		}
	}
	return next, jump, true
}

// readBy are the registers that a step reads.
func readBy(x step) []int {
	var list []int
	switch {
	case x.op == api.Exit:
		return []int{0}
	case x.op == api.Call && x.num == api.Shrink:
		return []int{1}
	case x.op == api.Call || x.op == api.Jump:
		return nil
	}
	if x.op != api.Mov && (x.op < api.Load1 || x.op > api.Load8) {
		list = append(list, x.dst)
	}
	if !x.imm {
		list = append(list, x.src)
	}
	return list
}

// on is a way one step on.
func (w way) on(x step) (on way, goesOn, jumps, is bool) {
	a, b := w.registers[x.dst], w.registers[x.src]
	if x.imm {
		b = kind{sort: kNumber}
	}
	switch {
	case x.op <= api.Shr:
		return w.worked(x, a, b)
	case x.op <= api.Load8:
		is = w.reaches(b, x.off, 1<<(x.op-api.Load1))
		return w.with(x.dst, kind{sort: kNumber}, false), true, false, is
	case x.op <= api.Store8:
		return w, true, false, b.sort == kNumber && w.reaches(a, x.off, 1<<(x.op-api.Store1))
	case x.op == api.Jump:
		return w, false, true, true
	case x.op <= api.Jle:
		if x.op == api.Jgt && a.sort == kFirst && b.sort == kEnd {
			w.tested = max(w.tested, a.k)
		}
		numbers := a.sort == kNumber && b.sort == kNumber
		return w, true, true, numbers || a.sort == kFirst && b.sort == kEnd || a.sort == kEnd && b.sort == kFirst
	case x.op == api.Call:
		return w.called(x.num), true, false, x.num != api.Shrink || w.registers[1].sort == kNumber
	}
	return w, false, false, w.given
}

func (w way) with(register int, k kind, given bool) way {
	w.registers[register] = k
	if register == 0 {
		w.given = given
	}
	return w
}

func (w way) worked(x step, a, b kind) (on way, goesOn, jumps, is bool) {
	switch {
	case x.op == api.Mov:
		return w.with(x.dst, b, x.imm && x.num >= 0 && x.num <= 3), true, false, true
	case a.sort == kNumber && b.sort == kNumber:
		return w.with(x.dst, a, false), true, false, true
	case x.op == api.Add && x.imm && (a.sort == kFirst || a.sort == kStack):
		a.k += x.num
	case x.op == api.Sub && x.imm && (a.sort == kFirst || a.sort == kStack):
		a.k -= x.num
	default:
		return w, true, false, false
	}
	return w.with(x.dst, a, false), true, false, a.k >= -1000 && a.k <= 1000
}

func (w way) reaches(k kind, off, size int) bool {
	from := k.k + off
	if k.sort == kStack {
		return from >= -32 && from+size <= 0
	}
	return k.sort == kFirst && from >= 0 && from+size <= w.tested
}

func (w way) called(num int) way {
	switch num {
	case api.First:
		return w.with(0, kind{sort: kFirst}, false)
	case api.Last:
		return w.with(0, kind{sort: kEnd}, false)
	}
	for i, k := range w.registers {
		if k.sort == kFirst || k.sort == kEnd || i >= 1 && i <= 3 {
			w.registers[i] = kind{}
		}
	}
	w.tested = 0
	return w.with(0, kind{sort: kNumber}, false)
}
