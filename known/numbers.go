package known

import (
	"math"
	"math/bits"
)

// The functions below tell the span of what comes of an operation on two
// numbers. Where the true one would have a hole, or is dear to work out, they
// tell a wider one.

// shiftBits are the bits of the second number by which Shl and Shr go.
const shiftBits = 63

func anyNumber() Numbers {
	return Numbers{Least: 0, Most: math.MaxUint64}
}

// inOrder is from least to most, if the results are kept in order: they are
// where all of them wrap round once, or none does.
func inOrder(least, most uint64, kept bool) Numbers {
	if !kept {
		return anyNumber()
	}
	return Numbers{Least: least, Most: most}
}

func Add(a, b Numbers) Numbers {
	least, wrapsLeast := bits.Add64(a.Least, b.Least, 0)
	most, wrapsMost := bits.Add64(a.Most, b.Most, 0)
	return inOrder(least, most, wrapsLeast == wrapsMost)
}

func Sub(a, b Numbers) Numbers {
	least, wrapsLeast := bits.Sub64(a.Least, b.Most, 0)
	most, wrapsMost := bits.Sub64(a.Most, b.Least, 0)
	return inOrder(least, most, wrapsLeast == wrapsMost)
}

func Mul(a, b Numbers) Numbers {
	high, most := bits.Mul64(a.Most, b.Most)
	return inOrder(a.Least*b.Least, most, high == 0)
}

// Div: by 0 it is 0, which is not above what any other divisor gives.
func Div(a, b Numbers) Numbers {
	if b.Least == 0 {
		return Numbers{Least: 0, Most: a.Most}
	}
	return Numbers{Least: a.Least / b.Most, Most: a.Most / b.Least}
}

// Mod: by 0 it is the first number itself.
func Mod(a, b Numbers) Numbers {
	if b.Least == 0 {
		return Numbers{Least: 0, Most: a.Most}
	}
	return Numbers{Least: 0, Most: min(a.Most, b.Most-1)}
}

func And(a, b Numbers) Numbers {
	return Numbers{Least: 0, Most: min(a.Most, b.Most)}
}

// Or and Xor set no bit above the highest that one of the two may have.

func Or(a, b Numbers) Numbers {
	return Numbers{Least: max(a.Least, b.Least), Most: allBitsOf(a.Most | b.Most)}
}

func Xor(a, b Numbers) Numbers {
	return Numbers{Least: 0, Most: allBitsOf(a.Most | b.Most)}
}

func allBitsOf(n uint64) uint64 {
	return uint64(1)<<bits.Len64(n) - 1
}

func Shl(a, b Numbers) Numbers {
	by := b.Least & shiftBits
	return inOrder(a.Least<<by, a.Most<<by, b.Least == b.Most && a.Most<<by>>by == a.Most)
}

func Shr(a, b Numbers) Numbers {
	if b.Least != b.Most {
		return Numbers{Least: 0, Most: a.Most}
	}
	by := b.Least & shiftBits
	return Numbers{Least: a.Least >> by, Most: a.Most >> by}
}
