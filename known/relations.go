package known

// Alike gives up if two values, of registers or NUM, may not be compared.
func (s State) Alike(a, b uint8) {
	if s.Read(a).kind != s.Read(b).kind {
		panic(s.harm())
	}
}

// The functions below tell what is known where two values, that may be
// compared, stand so to each other; if they can't, no way leads there.

func Less(s State, a, b uint8) State       { return s.apartBy(a, b, 1) }
func NotGreater(s State, a, b uint8) State { return s.apartBy(a, b, 0) }
func Greater(s State, a, b uint8) State    { return Less(s, b, a) }
func NotLess(s State, a, b uint8) State    { return NotGreater(s, b, a) }
func Equal(s State, a, b uint8) State      { return NotLess(NotGreater(s, a, b), a, b) }

// NotEqual: a hole in a span can't be told.
func NotEqual(s State, a, b uint8) State { return s }

// apartBy is s where one value lies below another, by gap at least. What
// lies below the frame's end so tells how long the frame is at least.
func (s State) apartBy(low, high uint8, gap int) State {
	a, b := s.values[low], s.values[high]
	var can bool
	if a.kind == number {
		a.numbers, b.numbers, can = below(a.numbers, b.numbers, uint64(gap))
	} else {
		a.places, b.places, can = below(a.places, b.places, gap)
	}
	if !can {
		return State{}
	}
	if b.isEnd {
		s.frame = max(s.frame, a.places.Least+gap)
	}
	return s.Set(low, a).Set(high, b)
}
