package look

import (
	"bytes"
	"testing"

	"wicket/api"
)

// thrown is what Shape panics with, or nil.
func thrown(code []byte) (what any) {
	defer func() { what = recover() }()
	Shape(code)
	return nil
}

func TestShapeThrowsWrongAlone(t *testing.T) {
	exit := []byte{api.Exit, 0, 0, 0, 0, 0, 0, 0}
	for _, c := range []struct {
		code []byte
		want any
	}{
		{nil, Wrong{api.ErrLength, 0}},
		{exit[:7], Wrong{api.ErrLength, 0}},
		{bytes.Repeat(exit, api.MaxCode+1), Wrong{api.ErrLength, 0}},
		{bytes.Repeat(exit, api.MaxCode), nil},
		{make([]byte, 8), Wrong{api.ErrCode, 0}},
		{bytes.Join([][]byte{exit, make([]byte, 8), exit}, nil), Wrong{api.ErrCode, 1}},
		{bytes.Join([][]byte{exit, {api.Jump, 0, 0, 0, 0, 0, 0, 0}}, nil), Wrong{api.ErrCode, 1}},
	} {
		if got := thrown(c.code); got != c.want {
			t.Errorf("Shape of %d bytes: %v, want %v", len(c.code), got, c.want)
		}
	}
}

// TestShapeOfEachByte changes each byte of right code to each value.
func TestShapeOfEachByte(t *testing.T) {
	right := bytes.Join([][]byte{{api.Jump, 0, 0, 0, 0, 0, 0, 0}, {api.Call, 0, 0, 0, 1, 0, 0, 0}, {api.Exit, 0, 0, 0, 0, 0, 0, 0}}, nil)
	for at := range right {
		for b := range 256 {
			code := bytes.Clone(right)
			code[at] = byte(b)
			switch what := thrown(code).(type) {
			case nil:
			case Wrong:
				if what != (Wrong{api.ErrCode, at / 8}) {
					t.Errorf("Shape(%v): %v", code, what)
				}
			default:
				t.Errorf("Shape(%v) threw %v", code, what)
			}
		}
	}
}
