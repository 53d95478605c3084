package wicket_test

import (
	"bytes"
	"math/rand"
	"testing"

	"wicket/api"
	"wicket/wicket"
)

func wantCode(t *testing.T, f *wicket.Filter, want []byte, what string) {
	t.Helper()
	if got := f.Code(); !bytes.Equal(got, want) {
		t.Errorf("P6: %s: Code() is %v, want %v", what, got, want)
	}
}

// codesLetIn has code of each length that may be.
func codesLetIn() [][]byte {
	r := rand.New(rand.NewSource(21))
	list := loadable()
	for n := 2; n <= api.MaxCode; n++ {
		list = append(list, plain(n), randomPlain(r, n))
	}
	return list
}

func TestP6Code(t *testing.T) {
	for _, c := range codesLetIn() {
		want := bytes.Clone(c)
		f, _, _ := wicket.Load(c)
		wantCode(t, f, want, "at first")
		wantCode(t, f, want, "asked again")
		fill(c)
		wantCode(t, f, want, "what was handed in was changed")
		fill(f.Code())
		wantCode(t, f, want, "an earlier answer was written into")
		f.Run([]byte{1, 2, 3})
		wantCode(t, f, want, "it was carried out")
	}
}

// TestP6SpareRoom: what stands behind the code is no part of it.
func TestP6SpareRoom(t *testing.T) {
	for _, c := range codesLetIn() {
		whole, part := roomy(c)
		f, _, _ := wicket.Load(part)
		wantCode(t, f, c, "with bytes behind it")
		fill(whole)
		wantCode(t, f, c, "what stands behind was changed")
	}
}

// TestP6NotReached: the code is told whole, also what no way leads to.
func TestP6NotReached(t *testing.T) {
	c := code(out(1), ins(api.Load8, 6, 5, -32768, 0), ins(api.Mul+api.Imm, 3, 0, 0, -2147483648), exit())
	f, _, _ := wicket.Load(c)
	wantCode(t, f, c, "instructions that no way leads to")
}

// TestP6Filters: each filter tells its own code.
func TestP6Filters(t *testing.T) {
	list := codesLetIn()
	var filters []*wicket.Filter
	for _, c := range list {
		f, _, _ := wicket.Load(c)
		filters = append(filters, f)
	}
	for i, f := range filters {
		wantCode(t, f, list[i], "among other filters")
		fill(f.Code())
	}
	for i, f := range filters {
		wantCode(t, f, list[i], "answers of other filters were written into")
	}
}

// TestP6Appended: what a caller puts behind an answer is in no other one.
func TestP6Appended(t *testing.T) {
	for _, c := range codesLetIn() {
		f, _, _ := wicket.Load(c)
		first, second := f.Code(), f.Code()
		_ = append(first, 1, 2, 3, 4, 5, 6, 7, 8)
		fill(second)
		if !bytes.Equal(first, c) {
			t.Errorf("P2: two answers of Code() have a place in common: %v", c)
		}
	}
}
