package known

import "wicket/api"

type kind uint8

const (
	// nothing is also what stands for values that are not of one kind on all
	// ways: neither may be read.
	nothing kind = iota
	number
	framePlace
	stackPlace
)

// Value is what is known of a value.
type Value struct {
	kind    kind
	numbers Numbers
	places  Places
	// isEnd: it is the frame's length, however long the frame is.
	isEnd bool
}

// NumbersOf is any number that was read from so many bytes.
func NumbersOf(size int) Numbers {
	return Numbers{Least: 0, Most: anyNumber().Most >> (64 - 8*size)}
}

func numberIn(span Numbers) Value {
	return Value{kind: number, numbers: span}
}

func firstPlace() Value {
	return Value{kind: framePlace, places: only(0)}
}

func endPlace() Value {
	return Value{kind: framePlace, places: Places{Least: 0, Most: api.MaxFrame}, isEnd: true}
}

func stackEnd() Value {
	return Value{kind: stackPlace, places: only(0)}
}

// or is what holds of both.
func (v Value) or(other Value) Value {
	if v.kind != other.kind {
		return Value{}
	}
	return Value{
		kind:    v.kind,
		numbers: v.numbers.or(other.numbers),
		places:  v.places.or(other.places),
		isEnd:   v.isEnd && other.isEnd,
	}
}
