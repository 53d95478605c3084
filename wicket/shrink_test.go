package wicket_test

import (
	"fmt"
	"testing"

	"wicket/api"
)

func shrink(n int) []byte { return code(mov(1, n), call(api.Shrink)) }

// again tells both ends of the frame anew, in registers 1 and 2.
func again() []byte { return code(call(api.First), cp(1, 0), call(api.Last), cp(2, 0)) }

// TestP5BehindShrink reads each register, with each kind in it, behind a Shrink.
func TestP5BehindShrink(t *testing.T) {
	for register := range api.Registers - 1 {
		for _, o := range operands() {
			if o.name == "nothing" || register == 1 {
				continue
			}
			kept := register > 3 && (o.name[0] != 't' || o.name == "the stack's end") || register == 0
			c := code(o.put(register), shrink(1), cp(4, register), out(1))
			want5(t, kept, c, fmt.Sprintf("register %d, which held %s", register, o.name))
		}
	}
	wantHarm(t, code(shrink(1), cp(4, 1), out(1)), "register 1, which held a number")
	wantPlain(t, code(shrink(1), cp(4, 7), load(5, 7, -1), out(1)), "the stack")
}

// TestP5ShrinkOfRegister1: it goes by a number alone.
func TestP5ShrinkOfRegister1(t *testing.T) {
	for _, n := range []int{0, 1, 64, 65, -1} {
		wantPlain(t, code(shrink(n), out(1)), "by a number")
		wantPlain(t, code(shrink(n), shrink(n), out(1)), "by a number, twice")
		wantHarm(t, code(shrink(n), call(api.Shrink), out(1)), "by nothing")
	}
	wantPlain(t, code(tested(8, code(ins(api.Load8, 1, 1, 0, 0), call(api.Shrink))), out(1)), "by a number that was read")
	for name, put := range map[string][]byte{"first": nil, "first plus 1": add(1, 1), "the end": cp(1, 2), "the stack": cp(1, 7)} {
		wantHarm(t, code(put, call(api.Shrink), out(1)), "by "+name)
		wantHarm(t, code(mov(4, 1), cp(5, 1), cp(6, 2), mov(1, 0), ins(api.Jeq, 5, 6, 2, 0), cp(1, 5), put, call(api.Shrink), out(1)), "on one way by "+name)
	}
}

// TestP5ShrinkForgetsTests: what was tested ahead tells nothing of the frame
// as it is then.
func TestP5ShrinkForgetsTests(t *testing.T) {
	read := ins(api.Load4, 4, 1, 0, 0)
	for _, n := range []int{0, 1, 14, 60, 64, -1} {
		wantPlain(t, code(tested(14, code(shrink(n), again(), tested(4, read))), out(1)), "tested anew")
		wantHarm(t, code(shrink(n), again(), read, out(1)), "never tested")
		wantHarm(t, code(shrink(n), again(), load(4, 1, 0), out(1)), "never tested, a byte")
		wantHarm(t, code(shrink(n), again(), tested(3, read), out(1)), "tested anew for less")
		wantHarm(t, code(tested(14, code(shrink(n), load(4, 1, 0))), out(1)), "by a place that is lost")
		wantHarm(t, code(cp(6, 1), tested(14, code(shrink(n), load(4, 6, 0))), out(1)), "by a copy that is lost")
		wantHarm(t, code(cp(6, 2), tested(14, code(shrink(n), ins(api.Jeq, 6, 6, 0, 0))), out(1)), "a copy of the end that is lost")
	}
	for _, n := range []int{11, 14} {
		wantHarm(t, code(tested(14, code(shrink(n), again(), read)), out(1)), "tested ahead alone")
	}
	holdTo(t, code(tested(14, code(shrink(10), again(), read)), out(1)), allFrames(), "tested ahead for enough")
}

func TestP5ShrinkOnOneWay(t *testing.T) {
	read := ins(api.Load4, 4, 1, 0, 0)
	for _, empty := range []bool{true, false} {
		wantHarm(t, code(onOneWay(empty, shrink(0)), cp(4, 1), out(1)), "register 1 is lost on one way")
		wantHarm(t, code(onOneWay(empty, shrink(0)), cp(4, 2), out(1)), "register 2 is lost on one way")
		wantHarm(t, code(mov(3, 1), onOneWay(empty, shrink(0)), cp(4, 3), out(1)), "register 3 is lost on one way")
		wantHarm(t, code(onOneWay(empty, shrink(0)), cp(4, 0), out(1)), "register 0 is set on one way")
		wantPlain(t, code(onOneWay(empty, shrink(0)), out(1)), "nothing is read")
		wantPlain(t, code(mov(4, 1), onOneWay(empty, shrink(0)), cp(5, 4), out(1)), "a number is kept on both ways")
	}
	lost := func(n int) []byte {
		return code(mov(5, n), cp(6, 1), load(5, 1, 13), ins(api.Jne+api.Imm, 5, 0, 2, 255), shrink(n), again(), read)
	}
	wantHarm(t, code(tested(14, lost(14)), out(1)), "tested ahead, shrunk on one way")
}

// TestP5ShrinkTells: what register 0 is told is 0 or 1.
func TestP5ShrinkTells(t *testing.T) {
	for _, n := range []int{0, 1, -1} {
		holdTo(t, code(shrink(n), exit()), allFrames(), "the verdict is what Shrink tells")
		holdTo(t, code(shrink(n), add(0, 2), exit()), allFrames(), "that and 2")
		wantPlain(t, code(shrink(n), ins(api.Jeq+api.Imm, 0, 0, 2, 0), out(1), out(2)), "asked")
	}
	wantHarm(t, code(shrink(1), add(0, 3), exit()), "that and 3")
	wantHarm(t, code(shrink(1), ins(api.Mul+api.Imm, 0, 0, 0, 4), exit()), "four times that")
	wantHarm(t, code(shrink(0), ins(api.Sub+api.Imm, 0, 0, 0, 1), exit()), "that less 1")
}

// TestP5Calls: what First and Last tell, and that they take nothing away.
func TestP5Calls(t *testing.T) {
	for _, n := range []int{api.First, api.Last} {
		for _, o := range operands() {
			wantPlain(t, code(mov(0, 1), o.put(4), call(n), mov(0, 1), exit()), "nothing is read ahead of it")
			if o.name != "nothing" {
				wantPlain(t, code(o.put(3), o.put(4), call(n), cp(5, 0), cp(5, 1), cp(5, 2), cp(5, 3), cp(5, 4), cp(5, 7), out(1)), "nothing is lost by it")
			}
		}
		wantPlain(t, code(tested(4, code(call(n), ins(api.Load4, 4, 1, 0, 0))), out(1)), "a test goes on holding")
	}
	for k := range 6 {
		test := code(call(api.First), cp(5, 0), cp(6, 0), call(api.Last), add(5, k))
		for off := -1; off <= 5; off++ {
			read := ins(api.Load1, 4, 6, off, 0)
			want5(t, off >= 0 && off < k, code(test, ins(api.Jgt, 5, 0, 1, 0), read, out(1)), "tested by what they tell")
			wantHarm(t, code(test, ins(api.Jgt, 0, 5, 1, 0), read, out(1)), "tested the other way round")
		}
	}
	wantHarm(t, code(call(api.Last), tested(1, load(4, 0, 0)), out(1)), "the end read")
	wantHarm(t, code(call(api.Last), load(4, 0, -1), out(1)), "ahead of the end read")
	wantHarm(t, code(call(api.First), load(4, 0, 0), out(1)), "the first place read")
}
