package wicket_test

import (
	"math/rand"
	"testing"

	"wicket/api"
	"wicket/wicket"
)

// randomFrame has bytes that are often alike, so that comparisons come out
// both ways.
func randomFrame(r *rand.Rand) []byte {
	frame := make([]byte, r.Intn(api.MaxFrame+1))
	r.Read(frame)
	for i := range frame {
		frame[i] = byte(pick(r, int(frame[i]), int(frame[i]), r.Intn(4), 0, 255))
	}
	return frame
}

func randomFrames(r *rand.Rand, n int) [][]byte {
	var list [][]byte
	for range n {
		list = append(list, randomFrame(r))
	}
	return list
}

// TestP7RandomPlain holds Run on plain code to the plain machine.
func TestP7RandomPlain(t *testing.T) {
	r := rand.New(rand.NewSource(31))
	for range 1500 {
		wantMachine(t, letIn(t, randomPlain(r, 2+r.Intn(api.MaxCode-1))), randomFrames(r, 40), "random plain code")
	}
}

// TestP7RandomLetIn does so for what is let in, plain or not.
func TestP7RandomLetIn(t *testing.T) {
	r := rand.New(rand.NewSource(32))
	count := 0
	for range 4000 {
		c := changed(r, randomPlain(r, 2+r.Intn(40)))
		if f, e, _ := wicket.Load(c); e == api.OK {
			wantMachine(t, f, randomFrames(r, 20), "random code that is let in")
			count += btoi(!isPlain(c))
		}
	}
	for range 300 {
		wantMachine(t, letIn(t, grown(r, 2+r.Intn(api.MaxCode-1))), randomFrames(r, 60), "code that has grown")
	}
	if count < 100 {
		t.Errorf("only %d random codes that are let in are not plain", count)
	}
}

// TestP7Seen has longer code, whose every instruction writes to the frame
// what it made: so nothing that is worked out stays unseen.
func TestP7Seen(t *testing.T) {
	r := rand.New(rand.NewSource(33))
	for range 2000 {
		var c []byte
		for register := range api.Registers - 1 {
			if register != 1 {
				c = append(c, ins(api.Load1+r.Intn(4), register, 1, r.Intn(57), 0)...)
			}
		}
		for range 20 {
			dst := pick(r, 0, 2, 3, 4, 5, 6)
			src := pick(r, 0, 2, 3, 4, 5, 6)
			op := api.Mov + r.Intn(api.Shr)
			work := pickList(r, ins(op, dst, src, 0, 0), ins(op+api.Imm, dst, 0, 0, r.Intn(1<<r.Intn(32))-r.Intn(1<<r.Intn(31))), ins(api.Jeq+r.Intn(6), dst, src, r.Intn(2), 0))
			c = append(c, work...)
			c = append(c, ins(api.Store1+r.Intn(4), 1, dst, r.Intn(57), 0)...)
		}
		wantMachine(t, letIn(t, code(tested(api.MaxFrame, c), out(r.Intn(4)))), [][]byte{counted(api.MaxFrame), randomWords(r), randomWords(r), nil}, "numbers that are all seen")
	}
}

// randomWords is a frame of MaxFrame bytes, of numbers of all sizes.
func randomWords(r *rand.Rand) []byte {
	var list []uint64
	for range api.MaxFrame / 8 {
		list = append(list, r.Uint64()>>r.Intn(64))
	}
	return words(list...)
}
