package wicket_test

import (
	"bytes"
	"testing"

	"wicket/api"
)

func TestP3NoBytes(t *testing.T) {
	wantError(t, nil, api.ErrLength, 0, "nil")
	wantError(t, []byte{}, api.ErrLength, 0, "empty")
	wantError(t, plain(2)[:0], api.ErrLength, 0, "empty, with code behind it")
}

// TestP3EachLength takes code whose every instruction is right, and cuts it.
func TestP3EachLength(t *testing.T) {
	long := bytes.Repeat(exit(), api.MaxCode+3)
	for n := range len(long) + 1 {
		if n > 0 && n%8 == 0 && n/8 <= api.MaxCode {
			wantShape(t, long[:n], "a right length")
		} else {
			wantError(t, long[:n], api.ErrLength, 0, "a wrong length")
		}
	}
}

func TestP3MaxCode(t *testing.T) {
	wantLoaded(t, plain(api.MaxCode), "just MaxCode")
	wantError(t, plain(api.MaxCode+1), api.ErrLength, 0, "one too many")
	for _, n := range []int{api.MaxCode * 2, 256, 256 + 2, 1<<16 + 2, 1 << 20} {
		wantError(t, plain(n), api.ErrLength, 0, "far too many")
	}
}

// TestP3BeforeP4 holds wrong lengths of wrong instructions to the error that
// is named first.
func TestP3BeforeP4(t *testing.T) {
	for _, n := range []int{1, 7, 9, 15, 8*api.MaxCode + 1, 8*api.MaxCode + 8, 8*api.MaxCode + 16} {
		wantError(t, bytes.Repeat([]byte{0}, n), api.ErrLength, 0, "zeros")
		wantError(t, bytes.Repeat([]byte{255}, n), api.ErrLength, 0, "255s")
	}
}
