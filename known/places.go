package known

import "wicket/api"

// Sum is what comes of an Add of two registers, or one and NUM.
func (s State) Sum(dst, src uint8) Value {
	a, b := s.Read(dst), s.Read(src)
	switch {
	case a.kind == number && b.kind == number:
		return numberIn(Add(a.numbers, b.numbers))
	case b.kind == number:
		return s.moved(a, s.steps(b.numbers))
	case a.kind == number:
		return s.moved(b, s.steps(a.numbers))
	}
	panic(s.harm())
}

// Difference is what comes of a Sub of two registers, or one and NUM.
func (s State) Difference(dst, src uint8) Value {
	a, b := s.Read(dst), s.Read(src)
	switch {
	case a.kind == number && b.kind == number:
		return numberIn(Sub(a.numbers, b.numbers))
	case b.kind == number:
		by := s.steps(b.numbers)
		return s.moved(a, Places{Least: -by.Most, Most: -by.Least})
	case a.kind == b.kind:
		return numberIn(apart(a.places, b.places))
	}
	panic(s.harm())
}

// steps are numbers, read with a sign, that are put to a place. It gives up
// on those that lead beyond MaxPlace from wherever they start, so that no sum
// of a place and what it tells is out of bounds.
func (s State) steps(span Numbers) Places {
	least, most := int64(span.Least), int64(span.Most)
	// A span across the border of the sign has the greatest numbers of both.
	if least > most || least < -2*api.MaxPlace || most > 2*api.MaxPlace {
		panic(s.harm())
	}
	return Places{Least: int(least), Most: int(most)}
}

// moved is a place so many steps on: what was the end is so no more.
func (s State) moved(v Value, by Places) Value {
	to := Places{Least: v.places.Least + by.Least, Most: v.places.Most + by.Most}
	if to.Least < -api.MaxPlace || to.Most > api.MaxPlace {
		panic(s.harm())
	}
	return Value{kind: v.kind, places: to}
}

// apart is how far places are apart, taken for 64 bits without a sign.
func apart(a, b Places) Numbers {
	least, most := a.Least-b.Most, a.Most-b.Least
	if least < 0 && most >= 0 {
		return anyNumber()
	}
	return Numbers{Least: uint64(least), Most: uint64(most)}
}

// Reach gives up if so many bytes, from off behind the place in a register
// on, are not shown to lie in the frame, or in the stack.
func (s State) Reach(register uint8, off int16, size int) {
	v := s.Read(register)
	from, to := v.places.Least+int(off), v.places.Most+int(off)+size
	inFrame := v.kind == framePlace && from >= 0 && to <= s.frame
	inStack := v.kind == stackPlace && from >= -api.StackSize && to <= 0
	if !inFrame && !inStack {
		panic(s.harm())
	}
}
