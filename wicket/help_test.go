package wicket_test

import (
	"bytes"
	"testing"

	"wicket/api"
	"wicket/wicket"
)

// ins is an instruction.
func ins(op, dst, src, off, num int) []byte {
	return []byte{byte(op), byte(dst&15 | src<<4), byte(off), byte(off >> 8), byte(num), byte(num >> 8), byte(num >> 16), byte(num >> 24)}
}

func code(list ...[]byte) []byte { return bytes.Join(list, nil) }

func set() []byte  { return ins(api.Mov+api.Imm, 0, 0, 0, 1) }
func exit() []byte { return ins(api.Exit, 0, 0, 0, 0) }

// plain is plain code of n instructions.
func plain(n int) []byte {
	return code(bytes.Repeat(set(), n-1), exit())
}

func wantError(t *testing.T, c []byte, want api.Errno, wantAt int, what string) {
	t.Helper()
	if f, e, at := wicket.Load(c); f != nil || e != want || at != wantAt {
		t.Errorf("%s: Load of %d bytes %v: filter %v, error %d at %d, want error %d at %d", what, len(c), head(c), f != nil, e, at, want, wantAt)
	}
}

func wantLoaded(t *testing.T, c []byte, what string) {
	t.Helper()
	if f, e, at := wicket.Load(c); f == nil || e != api.OK || at != 0 {
		t.Errorf("%s: Load of %d bytes %v: filter %v, error %d at %d, want a filter", what, len(c), head(c), f != nil, e, at)
	}
}

// wantShape asks that nothing is wrong with the shape; whether the code is
// safe is another matter.
func wantShape(t *testing.T, c []byte, what string) {
	t.Helper()
	if _, e, at := wicket.Load(c); e != api.OK && e != api.ErrUnsafe {
		t.Errorf("%s: Load of %d bytes %v: error %d at %d, want a right shape", what, len(c), head(c), e, at)
	}
}

// head keeps what a failed test tells short.
func head(c []byte) []byte { return c[:min(len(c), 48)] }
