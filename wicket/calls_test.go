package wicket_test

import (
	"bytes"
	"math/rand"
	"slices"
	"testing"

	"wicket/api"
	"wicket/wicket"
)

// checkLoad asks what P1 says of any answer of Load.
func checkLoad(t *testing.T, c []byte) *wicket.Filter {
	t.Helper()
	f, e, at := wicket.Load(c)
	right := false
	switch e {
	case api.OK:
		right = f != nil && at == 0
	case api.ErrLength:
		right = f == nil && at == 0
	case api.ErrCode, api.ErrUnsafe:
		right = f == nil && at >= 0 && at < len(c)/8
	}
	if !right {
		t.Errorf("P1: Load of %d bytes %v: filter %v, error %d at %d", len(c), head(c), f != nil, e, at)
	}
	return f
}

// checkRun asks what P1 says of any answer of Run.
func checkRun(t *testing.T, f *wicket.Filter, frame []byte) {
	t.Helper()
	verdict, left, e := f.Run(frame)
	right := false
	switch e {
	case api.OK:
		right = len(frame) <= api.MaxFrame && verdict >= 0 && verdict <= 3 && len(left) <= len(frame)
	case api.ErrFrame:
		right = len(frame) > api.MaxFrame && verdict == 0 && len(left) == 0
	}
	if !right {
		t.Errorf("P1: Run on %d bytes: verdict %d, left %v, error %d", len(frame), verdict, left, e)
	}
}

func frames() [][]byte {
	list := [][]byte{nil, {}, {0}, {7}, {255, 0, 255}}
	for _, n := range []int{8, api.MaxFrame - 1, api.MaxFrame, api.MaxFrame + 1, 256, 100000} {
		list = append(list, bytes.Repeat([]byte{255}, n))
	}
	return list
}

func callAll(t *testing.T, c []byte) {
	t.Helper()
	f := checkLoad(t, c)
	if f == nil {
		return
	}
	f.Code()
	for _, frame := range frames() {
		checkRun(t, f, frame)
	}
}

// randomCode is mostly near the table, so that all errors come up.
func randomCode(r *rand.Rand) []byte {
	c := make([]byte, 8*r.Intn(api.MaxCode+2))
	r.Read(c)
	for at := 0; at < len(c); at += 8 {
		op := r.Intn(42)
		if r.Intn(2) == 0 {
			op += api.Imm
		}
		copy(c[at:], ins(op, r.Intn(9), r.Intn(2)*r.Intn(9), r.Intn(2)*r.Intn(4), r.Intn(2)*r.Intn(5)))
	}
	if len(c) > 0 && r.Intn(4) > 0 {
		copy(c[len(c)-8:], exit())
	}
	return c[:max(0, len(c)-r.Intn(2)*r.Intn(2))]
}

func TestP1AnyBytes(t *testing.T) {
	r := rand.New(rand.NewSource(1))
	for range 20000 {
		callAll(t, randomCode(r))
		c := make([]byte, r.Intn(8*api.MaxCode+20))
		r.Read(c)
		callAll(t, c)
	}
}

func TestP1Edges(t *testing.T) {
	callAll(t, nil)
	callAll(t, []byte{})
	callAll(t, make([]byte, 1<<20))
	for _, n := range []int{1, 7, 8, 9, 16, 8 * api.MaxCode, 8*api.MaxCode + 8} {
		for b := range 256 {
			callAll(t, bytes.Repeat([]byte{byte(b)}, n))
		}
	}
	for n := 2; n <= api.MaxCode; n++ {
		callAll(t, plain(n))
	}
	for _, c := range loadable() {
		callAll(t, c)
	}
}

// TestP1ShortCode tries every operation and all registers, alone, ahead of an
// Exit and behind what sets register 0.
func TestP1ShortCode(t *testing.T) {
	for op := range 256 {
		for both := range 256 {
			for _, num := range []int{-1, 0, 1, 1 << 30} {
				x := ins(op, both&15, both>>4, 0, num)
				checkLoad(t, x)
				checkLoad(t, code(x, exit()))
				checkLoad(t, code(set(), x, exit()))
			}
		}
	}
}

// roomy lays a list into a larger one, with bytes ahead of it and behind.
func roomy(list []byte) (whole, part []byte) {
	whole = slices.Concat(bytes.Repeat([]byte{170}, 16), list, bytes.Repeat([]byte{85}, 80))
	return whole, whole[16 : 16+len(list)]
}

// someCodes has a code for each error that Load tells, and some that it lets in.
func someCodes() [][]byte {
	return slices.Concat([][]byte{
		nil,
		set()[:7],
		plain(api.MaxCode + 1),
		set(),
		code(set(), ins(0, 0, 0, 0, 0), exit()),
		exit(),
		plain(2),
		plain(api.MaxCode),
	}, plainExamples(), writers())
}

func TestP2CodeNotWritten(t *testing.T) {
	for _, c := range someCodes() {
		whole, part := roomy(c)
		before := bytes.Clone(whole)
		f, _, _ := wicket.Load(part)
		if f != nil {
			fill(f.Code())
			f.Run([]byte{1, 2, 3})
		}
		if !bytes.Equal(whole, before) {
			t.Errorf("P2: Load wrote into the code it was given: %v", head(c))
		}
	}
}

func TestP2FrameNotWritten(t *testing.T) {
	for _, c := range loadable() {
		f, _, _ := wicket.Load(c)
		for _, frame := range frames() {
			whole, part := roomy(frame)
			before := bytes.Clone(whole)
			_, left, _ := f.Run(part)
			fill(left)
			if !bytes.Equal(whole, before) {
				t.Errorf("P2: Run wrote into a frame of %d bytes, or gave it back", len(frame))
			}
		}
	}
}

// TestP2FrameNotKept: what the caller writes into a frame later is not seen
// in what came out.
func TestP2FrameNotKept(t *testing.T) {
	for _, c := range loadable() {
		f, _, _ := wicket.Load(c)
		for _, frame := range frames() {
			whole, part := roomy(frame)
			verdict, left, e := f.Run(part)
			before := answer{verdict, bytes.Clone(left), e}
			fill(whole)
			if again, list, e := f.Run(frame); !same(before, answer{verdict, left, e}) || !same(before, answer{again, list, e}) {
				t.Errorf("P2: what came of a frame of %d bytes changed with it", len(frame))
			}
		}
	}
}

// TestP2AnyOrder: a filter answers the same, however often and in whatever
// order it is run, and among others.
func TestP2AnyOrder(t *testing.T) {
	r := rand.New(rand.NewSource(41))
	list, given := codesLetIn(), frames()
	var filters []*wicket.Filter
	var want [][]answer
	for _, c := range list {
		f, _, _ := wicket.Load(c)
		filters, want = append(filters, f), append(want, answersOf(f))
	}
	for range 20000 {
		i, k := r.Intn(len(list)), r.Intn(len(given))
		verdict, left, e := filters[i].Run(given[k])
		if !same(answer{verdict, left, e}, want[i][k+1]) {
			t.Fatalf("P2: Run of %v on the frame %d: verdict %d, left %v, error %d, and at first %v", list[i], k, verdict, left, e, want[i][k+1])
		}
		fill(left)
	}
}

func TestP2CodeNotKept(t *testing.T) {
	for _, c := range loadable() {
		_, part := roomy(c)
		f, _, _ := wicket.Load(part)
		before := answersOf(f)
		fill(part)
		if !slices.EqualFunc(before, answersOf(f), same) {
			t.Errorf("P2: what a filter answers changed with the code that was handed in: %v", head(c))
		}
	}
}

func TestP2AnswersAreTheCallers(t *testing.T) {
	for _, c := range loadable() {
		f, _, _ := wicket.Load(c)
		before := answersOf(f)
		fill(f.Code())
		for _, frame := range frames() {
			_, left, _ := f.Run(frame)
			fill(left)
		}
		if !slices.EqualFunc(before, answersOf(f), same) {
			t.Errorf("P2: what a filter answers changed with what the caller wrote: %v", head(c))
		}
	}
}

// TestP2AnswersApart writes into one list that came out and asks all others.
func TestP2AnswersApart(t *testing.T) {
	for _, c := range loadable() {
		f, _, _ := wicket.Load(c)
		g, _, _ := wicket.Load(c)
		first, second := listsOf(f, g), listsOf(f, g)
		for i := range first {
			before := bytes.Clone(second[i])
			fill(first[i])
			if !bytes.Equal(before, second[i]) {
				t.Errorf("P2: two lists that came out have a place in common: %v", head(c))
			}
		}
	}
}

// TestP2CodeAndFrameAlone: other calls in between change nothing.
func TestP2CodeAndFrameAlone(t *testing.T) {
	for _, c := range loadable() {
		f, _, _ := wicket.Load(c)
		before := answersOf(f)
		for _, other := range someCodes() {
			callAll(t, other)
		}
		g, _, _ := wicket.Load(bytes.Clone(c))
		if !slices.EqualFunc(before, answersOf(f), same) || !slices.EqualFunc(before, answersOf(g), same) {
			t.Errorf("P2: what a filter answers hangs on more than code and frame: %v", head(c))
		}
	}
	for _, c := range someCodes() {
		f, e, at := wicket.Load(c)
		g, again, atAgain := wicket.Load(bytes.Clone(c))
		if (f == nil) != (g == nil) || e != again || at != atAgain {
			t.Errorf("P2: Load of the same code: %d at %d, then %d at %d", e, at, again, atAgain)
		}
	}
}

func loadable() [][]byte {
	return slices.Concat([][]byte{plain(2), plain(9), plain(api.MaxCode)}, plainExamples(), writers())
}

// writers is code that writes into frame and stack, and takes bytes away.
func writers() [][]byte {
	writes := code(mov(4, 77), ins(api.Store1, 1, 4, 0, 0), ins(api.Store1, 7, 4, -1, 0))
	return [][]byte{
		code(tested(1, writes), out(1)),
		code(tested(8, code(mov(4, 77), ins(api.Store8, 1, 4, 0, 0))), out(2)),
		code(tested(api.MaxFrame, code(mov(4, -1), ins(api.Store8, 1, 4, api.MaxFrame-8, 0))), out(2)),
		code(tested(1, code(writes, shrink(1))), out(3)),
		code(shrink(2), again(), tested(1, writes), out(0)),
		code(load(4, 7, -1), add(4, 5), ins(api.Store1, 7, 4, -1, 0), tested(1, code(load(4, 7, -1), ins(api.Store1, 1, 4, 0, 0))), out(1)),
		code(shrink(api.MaxFrame), out(0)),
	}
}

// fill writes over a list and its spare room.
func fill(list []byte) {
	list = list[:cap(list)]
	for i := range list {
		list[i] = 99
	}
}

type answer struct {
	verdict int
	list    []byte
	errno   api.Errno
}

func same(a, b answer) bool {
	return a.verdict == b.verdict && a.errno == b.errno && bytes.Equal(a.list, b.list)
}

// answersOf is all that a filter says, copied.
func answersOf(f *wicket.Filter) []answer {
	list := []answer{{list: bytes.Clone(f.Code())}}
	for _, frame := range frames() {
		verdict, left, e := f.Run(frame)
		list = append(list, answer{verdict, bytes.Clone(left), e})
	}
	return list
}

// listsOf is what filters hand out, not copied.
func listsOf(filters ...*wicket.Filter) [][]byte {
	var list [][]byte
	for _, f := range filters {
		list = append(list, f.Code())
		for _, frame := range frames() {
			_, left, _ := f.Run(frame)
			list = append(list, left)
		}
	}
	return list
}
