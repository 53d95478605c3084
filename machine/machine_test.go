package machine

import (
	"bytes"
	"math"
	"testing"

	"wicket/api"
	"wicket/registers"
)

func counted(n int) []byte {
	list := make([]byte, n)
	for i := range list {
		list[i] = byte(i + 1)
	}
	return list
}

func TestStart(t *testing.T) {
	for n := range api.MaxFrame + 1 {
		m := Start(counted(n))
		first, end := m.Values[registers.First], m.Values[registers.End]
		if end-first != uint64(n) || m.Values[registers.Stack] != stackEnd {
			t.Errorf("a frame of %d bytes: %v", n, m.Values)
		}
		if !bytes.Equal(m.Frame(), counted(n)) {
			t.Errorf("a frame of %d bytes is %v", n, m.Frame())
		}
		if !bytes.Equal(m.memory[:api.StackSize], make([]byte, api.StackSize)) {
			t.Errorf("the stack is %v at first", m.memory[:api.StackSize])
		}
	}
}

// TestFrameIsCopied: on the way in, and on the way out.
func TestFrameIsCopied(t *testing.T) {
	frame := counted(9)
	m := Start(frame)
	frame[0] = 99
	m.Frame()[1] = 99
	if !bytes.Equal(m.Frame(), counted(9)) {
		t.Errorf("the frame is %v", m.Frame())
	}
	m.Store(registers.First, 2, 1, 77)
	if frame[2] != 3 {
		t.Errorf("what was handed in is %v", frame)
	}
}

func TestAhead(t *testing.T) {
	m := Start(nil)
	for num, want := range map[int32]uint64{0: 0, 5: 5, -1: math.MaxUint64, math.MaxInt32: 1<<31 - 1, math.MinInt32: math.MaxUint64 - (1<<31 - 1)} {
		if m.Ahead(num); m.Values[registers.Num] != want {
			t.Errorf("NUM %d is %d, want %d", num, m.Values[registers.Num], want)
		}
	}
}

// TestNoPlaceBelow0: so places can be compared as numbers are.
func TestNoPlaceBelow0(t *testing.T) {
	m := Start(counted(api.MaxFrame))
	for _, register := range []int{registers.First, registers.End, registers.Stack} {
		if low := Sub(m.Values[register], api.MaxPlace); low > m.Values[register] {
			t.Errorf("MaxPlace below register %d is %d", register, low)
		}
	}
}

func TestLoadAndStore(t *testing.T) {
	for _, size := range []int{1, 2, 4, 8} {
		m := Start(counted(16))
		before := m.memory
		m.Store(registers.First, 3, size, 0xf1f2f3f4f5f6f7f8)
		m.Store(registers.Stack, -8, size, 0xe1e2e3e4e5e6e7e8)
		if n := m.Load(registers.First, 3, size); n != 0xf1f2f3f4f5f6f7f8<<(64-8*size)>>(64-8*size) {
			t.Errorf("%d bytes of the frame: %x", size, n)
		}
		if n := m.Load(registers.Stack, -8, size); n != 0xe1e2e3e4e5e6e7e8<<(64-8*size)>>(64-8*size) {
			t.Errorf("%d bytes of the stack: %x", size, n)
		}
		changes := 0
		for i, b := range m.memory {
			if b != before[i] {
				changes++
			}
		}
		if changes != 2*size {
			t.Errorf("two Stores of %d bytes changed %d", size, changes)
		}
	}
}

func TestShrink(t *testing.T) {
	for _, c := range []struct{ n, by, told uint64 }{
		{5, 0, 0}, {5, 2, 0}, {5, 5, 0}, {5, 6, 1}, {5, math.MaxUint64, 1}, {0, 0, 0}, {0, 1, 1}, {64, 64, 0}, {64, 65, 1},
	} {
		m := Start(counted(int(c.n)))
		m.Values[registers.First] = c.by
		m.Shrink()
		want := counted(int(c.n))
		if c.told == 0 {
			want = want[c.by:]
		}
		if got := m.Values[registers.Verdict]; got != c.told || !bytes.Equal(m.Frame(), want) {
			t.Errorf("Shrink of %d bytes by %d tells %d and leaves %v", c.n, c.by, got, m.Frame())
		}
		m.First()
		first := m.Values[registers.Verdict]
		m.Last()
		if last := m.Values[registers.Verdict]; last-first != uint64(len(want)) {
			t.Errorf("behind a Shrink of %d bytes by %d First and Last are %d apart", c.n, c.by, last-first)
		}
	}
}

func TestVerdict(t *testing.T) {
	m := Start(nil)
	for v := range 4 {
		m.Values[registers.Verdict] = uint64(v)
		if m.Verdict() != v {
			t.Errorf("the verdict %d is %d", v, m.Verdict())
		}
	}
}
