package known

import (
	"math"
	"slices"
	"testing"
)

type operation struct {
	name   string
	span   func(a, b Numbers) Numbers
	result func(a, b uint64) uint64
}

func operations() []operation {
	return []operation{
		{"Add", Add, func(a, b uint64) uint64 { return a + b }},
		{"Sub", Sub, func(a, b uint64) uint64 { return a - b }},
		{"Mul", Mul, func(a, b uint64) uint64 { return a * b }},
		{"Div", Div, func(a, b uint64) uint64 {
			if b == 0 {
				return 0
			}
			return a / b
		}},
		{"Mod", Mod, func(a, b uint64) uint64 {
			if b == 0 {
				return a
			}
			return a % b
		}},
		{"And", And, func(a, b uint64) uint64 { return a & b }},
		{"Or", Or, func(a, b uint64) uint64 { return a | b }},
		{"Xor", Xor, func(a, b uint64) uint64 { return a ^ b }},
		{"Shl", Shl, func(a, b uint64) uint64 { return a << (b & 63) }},
		{"Shr", Shr, func(a, b uint64) uint64 { return a >> (b & 63) }},
	}
}

func edges() []uint64 {
	return []uint64{0, 1, 2, 3, 7, 8, 63, 64, 65, 255, 256, 1000, math.MaxUint32, math.MaxUint32 + 1, math.MaxInt64, math.MaxInt64 + 1, math.MaxUint64 - 1, math.MaxUint64}
}

// spans are all from one edge to another.
func spans() []Numbers {
	var list []Numbers
	for i, least := range edges() {
		for _, most := range edges()[i:] {
			list = append(list, Numbers{Least: least, Most: most})
		}
	}
	return list
}

// members are some of those numbers in a span that matter most.
func members(s Numbers) []uint64 {
	list := []uint64{s.Least, s.Most, s.Least + (s.Most-s.Least)/2}
	for _, n := range edges() {
		if n >= s.Least && n <= s.Most {
			list = append(list, n)
		}
	}
	slices.Sort(list)
	return slices.Compact(list)
}

// TestNumbersWithin: what comes of numbers of two spans lies in the span told.
func TestNumbersWithin(t *testing.T) {
	for _, o := range operations() {
		for _, a := range spans() {
			for _, b := range spans() {
				got := o.span(a, b)
				for _, x := range members(a) {
					for _, y := range members(b) {
						if n := o.result(x, y); n < got.Least || n > got.Most {
							t.Fatalf("%s of %v and %v: %v, but of %d and %d it is %d", o.name, a, b, got, x, y, n)
						}
					}
				}
			}
		}
	}
}

// TestNumbersSmall tries all numbers of all small spans.
func TestNumbersSmall(t *testing.T) {
	const most = 9
	for _, o := range operations() {
		for i := range uint64(most * most * most * most) {
			a := Numbers{Least: i % most, Most: i / most % most}
			b := Numbers{Least: i / most / most % most, Most: i / most / most / most}
			if a.Least > a.Most || b.Least > b.Most {
				continue
			}
			got := o.span(a, b)
			for x := a.Least; x <= a.Most; x++ {
				for y := b.Least; y <= b.Most; y++ {
					if n := o.result(x, y); n < got.Least || n > got.Most {
						t.Fatalf("%s of %v and %v: %v, but of %d and %d it is %d", o.name, a, b, got, x, y, n)
					}
				}
			}
		}
	}
}

// TestNumbersNarrow: what is known is not thrown away.
func TestNumbersNarrow(t *testing.T) {
	all := anyNumber()
	for _, c := range []struct {
		name      string
		got, want Numbers
	}{
		{"Add", Add(Numbers{1, 5}, Numbers{10, 20}), Numbers{11, 25}},
		{"Add of -1", Add(Numbers{1, 5}, just(all.Most)), Numbers{0, 4}},
		{"Add across 0", Add(Numbers{0, 5}, just(all.Most)), all},
		{"Sub", Sub(Numbers{30, 50}, Numbers{10, 20}), Numbers{10, 40}},
		{"Sub below 0", Sub(Numbers{0, 5}, just(6)), Numbers{all.Most - 5, all.Most}},
		{"Sub across 0", Sub(Numbers{0, 5}, just(5)), all},
		{"Mul", Mul(Numbers{2, 3}, Numbers{5, 7}), Numbers{10, 21}},
		{"Mul of too much", Mul(Numbers{2, 1 << 32}, Numbers{5, 1 << 32}), all},
		{"Div", Div(Numbers{10, 20}, Numbers{2, 5}), Numbers{2, 10}},
		{"Div by 0 too", Div(Numbers{10, 20}, Numbers{0, 5}), Numbers{0, 20}},
		{"Mod", Mod(Numbers{10, 20}, Numbers{2, 5}), Numbers{0, 4}},
		{"Mod of little", Mod(Numbers{1, 2}, Numbers{2, 5}), Numbers{0, 2}},
		{"Mod by 0 too", Mod(Numbers{10, 20}, Numbers{0, 5}), Numbers{0, 20}},
		{"And", And(all, just(3)), Numbers{0, 3}},
		{"Or", Or(Numbers{1, 5}, Numbers{2, 8}), Numbers{2, 15}},
		{"Xor", Xor(Numbers{1, 5}, Numbers{2, 4}), Numbers{0, 7}},
		{"Or of 0", Or(just(0), just(0)), just(0)},
		{"Shl", Shl(Numbers{1, 3}, just(64+2)), Numbers{4, 12}},
		{"Shl of too much", Shl(Numbers{1, 3}, just(63)), all},
		{"Shl by any", Shl(Numbers{1, 3}, Numbers{0, 1}), all},
		{"Shr", Shr(Numbers{8, 255}, just(64+3)), Numbers{1, 31}},
		{"Shr by any", Shr(Numbers{8, 255}, Numbers{0, 1}), Numbers{0, 255}},
		{"one byte", NumbersOf(1), Numbers{0, 255}},
		{"two bytes", NumbersOf(2), Numbers{0, 65535}},
		{"four bytes", NumbersOf(4), Numbers{0, math.MaxUint32}},
		{"eight bytes", NumbersOf(8), all},
	} {
		if c.got != c.want {
			t.Errorf("%s: %v, want %v", c.name, c.got, c.want)
		}
	}
}

// TestBelow holds what is left of two spans to all pairs in them.
func TestBelow(t *testing.T) {
	const most = 6
	for i := range uint64(2 * most * most * most * most) {
		gap := i % 2
		a := Numbers{Least: i / 2 % most, Most: i / 2 / most % most}
		b := Numbers{Least: i / 2 / most / most % most, Most: i / 2 / most / most / most}
		if a.Least > a.Most || b.Least > b.Most {
			continue
		}
		var wantA, wantB []uint64
		for x := a.Least; x <= a.Most; x++ {
			for y := b.Least; y <= b.Most; y++ {
				if x+gap <= y {
					wantA, wantB = append(wantA, x), append(wantB, y)
				}
			}
		}
		low, high, can := below(a, b, gap)
		if can != (len(wantA) > 0) {
			t.Errorf("below(%v, %v, %d): %v", a, b, gap, can)
		} else if can && (low != spanOf(wantA) || high != spanOf(wantB)) {
			t.Errorf("below(%v, %v, %d): %v and %v, want %v and %v", a, b, gap, low, high, wantA, wantB)
		}
	}
}

func spanOf(list []uint64) Numbers {
	return Numbers{Least: slices.Min(list), Most: slices.Max(list)}
}

// TestBelowFar: nothing wraps round at the ends of what there is.
func TestBelowFar(t *testing.T) {
	all := anyNumber()
	if low, high, can := below(all, all, 1); !can || low != (Numbers{0, all.Most - 1}) || high != (Numbers{1, all.Most}) {
		t.Errorf("below all numbers: %v, %v, %v", low, high, can)
	}
	for _, n := range []uint64{0, 1, all.Most} {
		if _, _, can := below(just(n), just(n), 1); can {
			t.Errorf("%d is below itself", n)
		}
		if _, _, can := below(just(n), just(n), 0); !can {
			t.Errorf("%d is not equal to itself", n)
		}
	}
	if _, _, can := below(all, just(0), 1); can {
		t.Error("something is below 0")
	}
	if _, _, can := below(just(all.Most), all, 1); can {
		t.Error("something is above the greatest number")
	}
	if low, high, can := below(Places{-1000, 1000}, Places{-5, 64}, 1); !can || low != (Places{-1000, 63}) || high != (Places{-5, 64}) {
		t.Errorf("below of places: %v, %v, %v", low, high, can)
	}
}

func just(n uint64) Numbers { return only(n) }
