package irq

import (
	"math"
	"testing"

	"phosphor/api"
)

// edges are numbers at and beside those that the chapter cuts at, with bits beside the three, below 0, and at both ends of int.
var edges = []int{
	0, 1, 2, 3, 4, 5, 6, 7, 8, 9, 10, 12, 15, 16, 127, 128, 248, 250, 254, 255, 256, 257, 260, 65535, 65536, 65538,
	-1, -2, -3, -4, -5, -7, -8, -9, -255, -256, -257,
	math.MaxInt, math.MaxInt - 1, math.MaxInt - 4, math.MaxInt - 7, math.MinInt, math.MinInt + 1, math.MinInt + 2, math.MinInt + 4, math.MinInt + 7,
}

// places are the places of Write and Read, those beside them, and some far from them that end as they do.
var places = []int{2, 3, 0, 1, 4, 5, 6, 7, 10, 11, 258, 259, 65538, 65539, -1, -2, -3, -5, -6, math.MaxInt, math.MaxInt - 4, math.MinInt, math.MinInt + 2, math.MinInt + 3}

// eight is n modulo 8, from 0 on.
func eight(n int) int { return (n%8 + 8) % 8 }

// has tells whether one of the lowest three bits of n is set, without a mask: by the number that is left of n.
func has(n, line int) bool { return eight(n)/line%2 == 1 }

// sum joins three bits to a number.
func sum(bit func(line int) bool) int {
	n := 0
	for _, line := range []int{1, 2, 4} {
		if bit(line) {
			n += line
		}
	}
	return n
}

// picked is what P11.2 asks for, line by line as it is written there.
func picked(s State, p int) (int, bool) {
	free := func(line int) bool { return has(s.Lines, line) && !has(s.Mask, line) }
	switch {
	case has(p, 4):
		return 0, false
	case free(4):
		return 0xfffa, true
	case free(2):
		return 0xfff8, true
	case free(1):
		return 0xfff6, true
	}
	return 0, false
}

// states are all of a Mask and a Lines of edges.
func states() []State {
	var all []State
	for _, mask := range edges {
		for _, lines := range edges {
			all = append(all, State{mask, lines})
		}
	}
	return all
}

// right are the states of three bits each.
func right() []State {
	var all []State
	for mask := range 8 {
		for lines := range 8 {
			all = append(all, State{mask, lines})
		}
	}
	return all
}

func expectState(t *testing.T, what string, given []int, got, want State) {
	t.Helper()
	if got != want {
		t.Errorf("%s%v = %v, want %v", what, given, got, want)
	}
}

// TestNumbers: the lines and the vectors have the numbers that the chapter gives them.
func TestNumbers(t *testing.T) {
	got := [5]int{Irq2, Irq1, Clock, Break, Reset}
	if want := [5]int{1, 2, 4, 0xfff6, 0xfffe}; got != want {
		t.Error(got, want)
	}
}

// TestRaise: P11.1, cases written out.
func TestRaise(t *testing.T) {
	for _, c := range []struct {
		s    State
		line int
		on   bool
		want State
	}{
		{State{}, Irq2, true, State{0, 1}},
		{State{}, Irq1, true, State{0, 2}},
		{State{}, Clock, true, State{0, 4}},
		{State{5, 2}, Clock, true, State{5, 6}},
		{State{5, 6}, Clock, true, State{5, 6}},
		{State{5, 6}, Clock, false, State{5, 2}},
		{State{5, 2}, Clock, false, State{5, 2}},
		{State{7, 7}, Irq2, false, State{7, 6}},
		{State{7, 7}, Irq1, false, State{7, 5}},
		{State{0, 1}, Irq1 | Clock, true, State{0, 7}},
		{State{0, 7}, Irq1 | Clock, false, State{0, 1}},
		{State{0, 0}, 7, true, State{0, 7}},
		{State{0, 7}, 7, false, State{0, 0}},
		{State{1, 3}, 0, true, State{1, 3}},
		{State{1, 3}, 0, false, State{1, 3}},
		{State{1, 3}, 8, true, State{1, 3}},
		{State{1, 3}, 8, false, State{1, 3}},
		{State{1, 3}, 255, true, State{1, 7}},
		{State{1, 3}, 255, false, State{1, 0}},
		{State{1, 3}, -1, true, State{1, 7}},
		{State{1, 3}, -1, false, State{1, 0}},
		{State{1, 3}, -4, true, State{1, 7}},
		{State{1, 7}, -4, false, State{1, 3}},
		{State{1, 3}, math.MaxInt, true, State{1, 7}},
		{State{1, 3}, math.MaxInt, false, State{1, 0}},
		{State{1, 3}, math.MinInt, true, State{1, 3}},
		{State{1, 3}, math.MinInt, false, State{1, 3}},
		{State{8, 8}, Irq2, true, State{0, 1}},
		{State{255, 255}, Irq2, false, State{7, 6}},
		{State{-1, -8}, Irq2, true, State{7, 1}},
		{State{math.MaxInt, math.MinInt}, Irq2, true, State{7, 1}},
		{State{math.MinInt, math.MaxInt}, Irq2, false, State{0, 6}},
	} {
		expectState(t, "Raise", []int{c.s.Mask, c.s.Lines, c.line}, Raise(c.s, c.line, c.on), c.want)
	}
}

// TestRaiseAll: P11.1, each line with each Mask and each Lines of the edges, set and not set.
func TestRaiseAll(t *testing.T) {
	for _, s := range states() {
		for _, line := range edges {
			given := []int{s.Mask, s.Lines, line}
			set := sum(func(bit int) bool { return has(s.Lines, bit) || has(line, bit) })
			expectState(t, "Raise on", given, Raise(s, line, true), State{eight(s.Mask), set})
			left := sum(func(bit int) bool { return has(s.Lines, bit) && !has(line, bit) })
			expectState(t, "Raise off", given, Raise(s, line, false), State{eight(s.Mask), left})
		}
	}
}

// TestPick: P11.2, cases written out.
func TestPick(t *testing.T) {
	for _, c := range []struct {
		s    State
		p    int
		want int
		ok   bool
	}{
		{State{1, 3}, 0, 0xfff8, true},
		{State{0, 0}, 0, 0, false},
		{State{0, 1}, 0, 0xfff6, true},
		{State{0, 2}, 0, 0xfff8, true},
		{State{0, 3}, 0, 0xfff8, true},
		{State{0, 4}, 0, 0xfffa, true},
		{State{0, 5}, 0, 0xfffa, true},
		{State{0, 6}, 0, 0xfffa, true},
		{State{0, 7}, 0, 0xfffa, true},
		{State{4, 7}, 0, 0xfff8, true},
		{State{6, 7}, 0, 0xfff6, true},
		{State{7, 7}, 0, 0, false},
		{State{2, 7}, 0, 0xfffa, true},
		{State{4, 5}, 0, 0xfff6, true},
		{State{2, 2}, 0, 0, false},
		{State{6, 6}, 0, 0, false},
		{State{0, 7}, api.FlagI, 0, false},
		{State{0, 7}, 255, 0, false},
		{State{0, 7}, 255 - api.FlagI, 0xfffa, true},
		{State{0, 7}, 256, 0xfffa, true},
		{State{0, 7}, 256 + api.FlagI, 0, false},
		{State{0, 7}, -1, 0, false},
		{State{0, 7}, -1 - api.FlagI, 0xfffa, true},
		{State{0, 7}, math.MaxInt, 0, false},
		{State{0, 7}, math.MinInt, 0xfffa, true},
		{State{0, 8}, 0, 0, false},
		{State{0, 248}, 0, 0, false},
		{State{0, 250}, 0, 0xfff8, true},
		{State{8, 7}, 0, 0xfffa, true},
		{State{-1, -1}, 0, 0, false},
		{State{-8, -1}, 0, 0xfffa, true},
		{State{-5, -1}, 0, 0xfffa, true},
		{State{math.MinInt, math.MaxInt}, 0, 0xfffa, true},
		{State{math.MaxInt, math.MaxInt}, 0, 0, false},
		{State{0, math.MinInt}, 0, 0, false},
		{State{0, math.MinInt + 1}, 0, 0xfff6, true},
	} {
		if got, ok := Pick(c.s, c.p); got != c.want || ok != c.ok {
			t.Errorf("Pick(%v, %d) = %x, %v, want %x, %v", c.s, c.p, got, ok, c.want, c.ok)
		}
	}
}

func expectPick(t *testing.T, s State, p int) {
	t.Helper()
	want, on := picked(s, p)
	if got, ok := Pick(s, p); got != want || ok != on {
		t.Errorf("Pick(%v, %d) = %x, %v, want %x, %v", s, p, got, ok, want, on)
	}
}

// TestPickAll: P11.2, each Mask with each Lines of three bits and each byte of flags, and all edges.
func TestPickAll(t *testing.T) {
	for _, s := range right() {
		for p := range 256 {
			expectPick(t, s, p)
		}
	}
	for _, s := range states() {
		for _, p := range edges {
			expectPick(t, s, p)
		}
	}
}

// TestWrite: P11.3, cases written out.
func TestWrite(t *testing.T) {
	for _, c := range []struct {
		s     State
		at, b int
		want  State
	}{
		{State{5, 6}, 2, 0, State{0, 6}},
		{State{5, 6}, 2, 7, State{7, 6}},
		{State{5, 6}, 2, 3, State{3, 6}},
		{State{5, 6}, 2, 8, State{0, 6}},
		{State{5, 6}, 2, 255, State{7, 6}},
		{State{5, 6}, 2, -1, State{7, 6}},
		{State{5, 6}, 2, -8, State{0, 6}},
		{State{5, 6}, 2, math.MaxInt, State{7, 6}},
		{State{5, 6}, 2, math.MinInt, State{0, 6}},
		{State{5, 14}, 2, 1, State{1, 6}},
		{State{5, 6}, 3, 0, State{5, 2}},
		{State{5, 7}, 3, 255, State{5, 3}},
		{State{5, 3}, 3, 4, State{5, 3}},
		{State{13, 255}, 3, 4, State{5, 3}},
		{State{-1, -1}, 3, math.MinInt, State{7, 3}},
		{State{5, 6}, 0, 7, State{5, 6}},
		{State{5, 6}, 1, 7, State{5, 6}},
		{State{5, 6}, 4, 7, State{5, 6}},
		{State{13, 255}, 4, 7, State{13, 255}},
		{State{-1, -1}, -1, 0, State{-1, -1}},
		{State{math.MaxInt, math.MinInt}, math.MaxInt, 0, State{math.MaxInt, math.MinInt}},
		{State{math.MaxInt, math.MinInt}, math.MinInt, 0, State{math.MaxInt, math.MinInt}},
	} {
		expectState(t, "Write", []int{c.s.Mask, c.s.Lines, c.at, c.b}, Write(c.s, c.at, c.b), c.want)
	}
}

// written is what P11.3 asks for of Write.
func written(s State, at, b int) State {
	switch at {
	case 2:
		return State{eight(b), eight(s.Lines)}
	case 3:
		return State{eight(s.Mask), eight(s.Lines) % 4}
	}
	return s
}

// TestWriteAll: P11.3, each place with each byte of the edges and each Mask and Lines of them.
func TestWriteAll(t *testing.T) {
	for _, s := range states() {
		for _, at := range places {
			for _, b := range edges {
				expectState(t, "Write", []int{s.Mask, s.Lines, at, b}, Write(s, at, b), written(s, at, b))
			}
		}
	}
}

// TestRead: P11.3, each place with each Mask and Lines of the edges.
func TestRead(t *testing.T) {
	for _, s := range states() {
		for _, at := range places {
			want := 0
			if at == 2 {
				want = eight(s.Mask)
			} else if at == 3 {
				want = eight(s.Lines)
			}
			if got := Read(s, at); got != want {
				t.Errorf("Read(%v, %d) = %d, want %d", s, at, got, want)
			}
		}
	}
}

// TestReadBack: P11.3, what is written is read, and a clock that is heard no longer interrupts.
func TestReadBack(t *testing.T) {
	s := Raise(Raise(State{}, Clock, true), Irq1, true)
	if got := Read(s, 3); got != 6 {
		t.Error(got)
	}
	if got := Read(Write(s, 2, 0xfd), 2); got != 5 {
		t.Error(got)
	}
	s = Write(s, 3, 0)
	if got, ok := Pick(s, 0); got != 0xfff8 || !ok || Read(s, 3) != 2 {
		t.Errorf("%x %v %v", got, ok, s)
	}
}

// rank is a vector's number in the order of P11.2; none is behind all.
func rank(t *testing.T, s State) int {
	t.Helper()
	at, ok := Pick(s, 0)
	if !ok {
		return 3
	}
	n, known := map[int]int{0xfffa: 0, 0xfff8: 1, 0xfff6: 2}[at]
	if !known {
		t.Fatalf("Pick(%v, 0) = %x", s, at)
	}
	return n
}

// TestOneMore: P11.4, each line raised besides, with none masked more.
func TestOneMore(t *testing.T) {
	places := map[int]int{Clock: 0, Irq1: 1, Irq2: 2}
	for _, s := range append(right(), states()...) {
		before := rank(t, s)
		for line, own := range places {
			after := rank(t, Raise(s, line, true))
			if after > before {
				t.Errorf("%v with %d raised: %d, before %d", s, line, after, before)
			}
			if !has(s.Mask, line) && after > own {
				t.Errorf("%v with %d raised: %d is behind it", s, line, after)
			}
			if has(s.Mask, line) && after != before {
				t.Errorf("%v with %d raised, which is masked: %d, before %d", s, line, after, before)
			}
		}
	}
}
