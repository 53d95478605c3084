package known

import (
	"testing"

	"wicket/api"
	"wicket/registers"
	"wicket/wrong"
)

// found is what a function gave up with, or nil.
func found(do func()) (what any) {
	defer func() { what = recover() }()
	do()
	return nil
}

func wantHarm(t *testing.T, at int, do func(), what string) {
	t.Helper()
	if got := found(do); got != (wrong.Found{Errno: api.ErrUnsafe, At: at}) {
		t.Errorf("%s: gave up with %v, want ErrUnsafe at %d", what, got, at)
	}
}

func TestStart(t *testing.T) {
	s := Start()
	for register, want := range [api.Registers]Value{1: firstPlace(), 2: endPlace(), 7: stackEnd()} {
		if s.values[register] != want {
			t.Errorf("register %d: %v, want %v", register, s.values[register], want)
		}
	}
	if !s.Reached || s.frame != 0 {
		t.Errorf("at first: reached %v, at least %d bytes", s.Reached, s.frame)
	}
}

// TestAhead: where something is given up is told, and NUM is found with its sign.
func TestAhead(t *testing.T) {
	s := Start().Ahead(17, -2)
	wantHarm(t, 17, func() { s.Read(0) }, "nothing read")
	wantHarm(t, 17, func() { s.ReadNumber(1) }, "a place read as a number")
	wantHarm(t, 17, func() { s.Verdict() }, "nothing for a verdict")
	if got := s.ReadNumber(registers.Num); got != only(^uint64(1)) {
		t.Errorf("NUM -2 is %v", got)
	}
	if got := s.Set(registers.Num, Value{}).Ahead(3, 5).ReadNumber(registers.Num); got != only(uint64(5)) {
		t.Errorf("NUM 5 is %v", got)
	}
}

// TestOr: what holds of both, and a way that is none tells nothing.
func TestOr(t *testing.T) {
	a, b := Start(), Start()
	a.values[4], b.values[4] = numberIn(Numbers{3, 5}), numberIn(Numbers{1, 4})
	a.values[5], b.values[5] = numberIn(only(uint64(3))), firstPlace()
	a.values[6], b.values[6] = endPlace(), firstPlace()
	a.values[7].places, b.values[7].places = only(-3), only(-8)
	a.frame, b.frame = 7, 9
	for _, s := range []State{a.Or(b), b.Or(a)} {
		if s.values[4] != numberIn(Numbers{1, 5}) || s.values[5] != (Value{}) || s.values[2] != endPlace() {
			t.Errorf("numbers: %v, mixed: %v, the end: %v", s.values[4], s.values[5], s.values[2])
		}
		if s.values[6].isEnd || s.values[6].places != (Places{0, api.MaxFrame}) || s.values[7].places != (Places{-8, -3}) {
			t.Errorf("the end or another place: %v, stack places: %v", s.values[6], s.values[7])
		}
		if s.frame != 7 || !s.Reached {
			t.Errorf("at least %d bytes, reached %v", s.frame, s.Reached)
		}
	}
	if got := (State{}).Or(a); got != a {
		t.Errorf("the first way that comes: %v, want %v", got, a)
	}
}

// TestRelations: each tells what is left of two numbers, or that there is no way.
func TestRelations(t *testing.T) {
	s := Start().SetNumber(4, Numbers{1, 9}).SetNumber(5, Numbers{4, 6})
	for _, c := range []struct {
		name     string
		relation func(s State, a, b uint8) State
		a, b     Numbers
	}{
		{"Less", Less, Numbers{1, 5}, Numbers{4, 6}},
		{"NotGreater", NotGreater, Numbers{1, 6}, Numbers{4, 6}},
		{"Greater", Greater, Numbers{5, 9}, Numbers{4, 6}},
		{"NotLess", NotLess, Numbers{4, 9}, Numbers{4, 6}},
		{"Equal", Equal, Numbers{4, 6}, Numbers{4, 6}},
		{"NotEqual", NotEqual, Numbers{1, 9}, Numbers{4, 6}},
	} {
		got := c.relation(s, 4, 5)
		if !got.Reached || got.ReadNumber(4) != c.a || got.ReadNumber(5) != c.b {
			t.Errorf("%s: %v and %v, want %v and %v", c.name, got.values[4], got.values[5], c.a, c.b)
		}
		far := s.SetNumber(5, only(uint64(50)))
		can := c.name == "Less" || c.name == "NotGreater" || c.name == "NotEqual"
		if c.relation(far, 4, 5).Reached != can {
			t.Errorf("%s of 1 to 9 and 50: reached %v, want %v", c.name, !can, can)
		}
	}
}

// TestRelationsOfTheEnd: what lies below the end tells how long the frame is.
func TestRelationsOfTheEnd(t *testing.T) {
	s := Start().Set(4, Value{kind: framePlace, places: only(5)})
	for _, c := range []struct {
		name string
		got  State
		want int
	}{
		{"5 not above the end", NotGreater(s, 4, 2), 5},
		{"5 below the end", Less(s, 4, 2), 6},
		{"the end not below 5", NotLess(s, 2, 4), 5},
		{"the end above 5", Greater(s, 2, 4), 6},
		{"5 is the end", Equal(s, 4, 2), 5},
		{"5 above the end", Greater(s, 4, 2), 0},
		{"5 not below the end", NotLess(s, 4, 2), 0},
		{"5 is not the end", NotEqual(s, 4, 2), 0},
		{"5 not above the first place", NotLess(s, 4, 1), 0},
	} {
		if !c.got.Reached || c.got.frame != c.want {
			t.Errorf("%s: reached %v, at least %d bytes, want %d", c.name, c.got.Reached, c.got.frame, c.want)
		}
	}
	more := NotGreater(s.Set(5, Value{kind: framePlace, places: only(3)}), 4, 2)
	if got := NotGreater(more, 5, 2).frame; got != 5 {
		t.Errorf("a test for less than what is known: at least %d bytes, want 5", got)
	}
}
