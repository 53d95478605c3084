package machine

// shiftBits are the bits of the second number by which Shl and Shr go.
const shiftBits = 63

// The functions below are what comes of two values; what does not fit into 64
// bits is left out. Since a number wraps round as it does with a sign, Add
// and Sub move places as well.

func Add(a, b uint64) uint64 { return a + b }
func Sub(a, b uint64) uint64 { return a - b }
func Mul(a, b uint64) uint64 { return a * b }

func Div(a, b uint64) uint64 {
	if b == 0 {
		return 0
	}
	return a / b
}

func Mod(a, b uint64) uint64 {
	if b == 0 {
		return a
	}
	return a % b
}

func And(a, b uint64) uint64 { return a & b }
func Or(a, b uint64) uint64  { return a | b }
func Xor(a, b uint64) uint64 { return a ^ b }
func Shl(a, b uint64) uint64 { return a << (b & shiftBits) }
func Shr(a, b uint64) uint64 { return a >> (b & shiftBits) }

// The functions below are how two values stand to each other.

func Equal(a, b uint64) bool      { return a == b }
func NotEqual(a, b uint64) bool   { return a != b }
func Greater(a, b uint64) bool    { return a > b }
func NotLess(a, b uint64) bool    { return a >= b }
func Less(a, b uint64) bool       { return a < b }
func NotGreater(a, b uint64) bool { return a <= b }
