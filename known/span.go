// Package known: what is known ahead of time of the values that an
// instruction finds, whichever way was gone and whatever frame came.
package known

// Span is what something is at least and at most.
type Span[T int | uint64] struct{ Least, Most T }

// Numbers is a span of numbers without a sign.
type Numbers = Span[uint64]

// Places is a span of places, counted from where their kind begins.
type Places = Span[int]

func only[T int | uint64](n T) Span[T] {
	return Span[T]{Least: n, Most: n}
}

// or is what holds of both.
func (s Span[T]) or(other Span[T]) Span[T] {
	return Span[T]{Least: min(s.Least, other.Least), Most: max(s.Most, other.Most)}
}

// below is what is left of two spans if what the first stands for lies below
// what the second stands for, by gap at least; false, if it can't.
func below[T int | uint64](low, high Span[T], gap T) (Span[T], Span[T], bool) {
	if low.Least > high.Most || high.Most-low.Least < gap {
		return low, high, false
	}
	low.Most = min(low.Most, high.Most-gap)
	high.Least = max(high.Least, low.Least+gap)
	return low, high, true
}
