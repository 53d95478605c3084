package wicket_test

import (
	"slices"
	"testing"

	"wicket/api"
	"wicket/wicket"
)

// TestP5Examples are those of the document that tell what is safe, by their bytes.
func TestP5Examples(t *testing.T) {
	two := []byte{129, 0, 0, 0, 2, 0, 0, 0}
	one := []byte{129, 0, 0, 0, 1, 0, 0, 0}
	zero := []byte{129, 0, 0, 0, 0, 0, 0, 0}
	end := []byte{41, 0, 0, 0, 0, 0, 0, 0}
	test := func(over byte) []byte {
		return []byte{1, 19, 0, 0, 0, 0, 0, 0, 130, 3, 0, 0, 1, 0, 0, 0, 33, 35, over, 0, 0, 0, 0, 0}
	}
	masked := code(test(2), []byte{20, 16, 0, 0, 0, 0, 0, 0, 135, 0, 0, 0, 3, 0, 0, 0}, end)
	read := []byte{20, 20, 0, 0, 0, 0, 0, 0}
	wantPlain(t, code(two, end), "register 0 is 2")
	wantUnsafe(t, end, "register 0 holds nothing")
	wantUnsafe(t, code([]byte{129, 0, 0, 0, 4, 0, 0, 0}, end), "register 0 is 4")
	wantHarm(t, masked, "the Exit is reached with nothing in register 0 as well")
	if isPlain(code(one, masked)) {
		t.Error("the test is wrong: what is not plain is plain")
	}
	holdTo(t, code(one, masked), allFrames(), "with register 0 set ahead of it all")
	wantHarm(t, code(zero, read, end), "the frame may be empty")
	wantPlain(t, code(zero, test(1), read, end), "with a test")
	wantPlain(t, slices.Concat(
		[]byte{40, 0, 0, 0, 2, 0, 0, 0}, []byte{1, 3, 0, 0, 0, 0, 0, 0},
		[]byte{40, 0, 0, 0, 3, 0, 0, 0}, []byte{1, 4, 0, 0, 0, 0, 0, 0},
		[]byte{130, 3, 0, 0, 1, 0, 0, 0}, []byte{33, 67, 2, 0, 0, 0, 0, 0},
		[]byte{129, 1, 0, 0, 1, 0, 0, 0}, []byte{40, 0, 0, 0, 1, 0, 0, 0}, two, end), "First, Last and Shrink")
}

// TestSafeButNotPlain is of code that the document leaves open: what is let
// in of it today should stay so.
func TestSafeButNotPlain(t *testing.T) {
	byte0 := load(4, 1, 0)
	for name, c := range map[string][]byte{
		"a byte, masked, is the verdict":    code(mov(0, 1), tested(1, code(load(0, 1, 0), ins(api.And+api.Imm, 0, 0, 0, 3))), exit()),
		"a byte, if it is a verdict":        code(mov(0, 0), tested(1, code(load(0, 1, 0), ins(api.Jle+api.Imm, 0, 0, 1, 3), mov(0, 3))), exit()),
		"a byte that a byte tells":          code(tested(16, code(byte0, ins(api.And+api.Imm, 4, 0, 0, 15), ins(api.Add, 1, 4, 0, 0), load(5, 1, 0))), out(1)),
		"a byte of the stack a byte tells":  code(tested(1, code(byte0, ins(api.Mod+api.Imm, 4, 0, 0, 32), cp(5, 7), ins(api.Sub, 5, 4, 0, 0), load(6, 5, -1))), out(1)),
		"how long the frame is":             code(cp(4, 2), ins(api.Sub, 4, 1, 0, 0), ins(api.Jgt+api.Imm, 4, 0, 0, 9), out(1)),
		"how far two places are apart":      code(cp(4, 7), add(4, -3), cp(0, 7), ins(api.Sub, 0, 4, 0, 0), exit()),
		"the end of a frame, moved":         code(add(2, -1), add(2, 900), out(1)),
		"a test in another form":            code(cp(3, 1), add(3, 3), ins(api.Jge, 2, 3, 2, 0), out(0), load(4, 1, 2), out(1)),
		"one more byte than is tested":      code(cp(3, 1), add(3, 3), ins(api.Jge, 3, 2, 1, 0), load(4, 1, 3), out(1)),
		"two places on two ways":            code(cp(4, 1), onOneWay(true, add(4, 1)), tested(2, load(5, 4, 0)), out(1)),
		"what Shrink tells is the verdict":  code(shrink(1), exit()),
		"behind a comparison that can't be": code(mov(4, 1), ins(api.Jgt+api.Imm, 4, 0, 1, 1), jump(1), load(4, 5, 0), out(1)),
	} {
		if isPlain(c) || faultsOn(c, allFrames()) {
			t.Errorf("the test is wrong: %s is plain, or faults", name)
		}
		if _, e, at := wicket.Load(c); e != api.OK {
			t.Errorf("%s: error %d at %d", name, e, at)
		}
	}
}
