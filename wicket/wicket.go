// Package wicket: small programs that decide on frames: see DOC.md.
package wicket

import (
	"bytes"

	"wicket/api"
	"wicket/carry"
	"wicket/look"
	"wicket/ops"
	"wicket/wrong"
)

// Filter is code that was let in.
type Filter struct {
	code []byte
}

// Load looks at code, and lets it in (P3 to P5).
func Load(code []byte) (filter *Filter, errno api.Errno, at int) {
	defer func() {
		switch thrown := recover().(type) {
		case nil:
		case wrong.Found:
			filter, errno, at = nil, thrown.Errno, thrown.At
		default:
			// Nothing else is meant to be thrown; should it be, the code
			// was not shown to be harmless, and no call may panic.
			filter, errno, at = nil, api.ErrUnsafe, 0
		}
	}()
	look.Safe(look.Shape(code))
	return &Filter{code: bytes.Clone(code)}, api.OK, 0
}

// Code tells the code (P6).
func (f *Filter) Code() []byte { return bytes.Clone(f.code) }

// Run carries the code out on a frame (P7).
func (f *Filter) Run(frame []byte) (int, []byte, api.Errno) {
	if len(frame) > api.MaxFrame {
		return 0, nil, api.ErrFrame
	}
	verdict, left := carry.Out(ops.Decode(f.code), frame)
	return verdict, left, api.OK
}
