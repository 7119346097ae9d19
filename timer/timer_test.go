package timer

import (
	"math"
	"testing"
)

// edges are numbers at and beside those that the chapter cuts at, odd and even, below 0, and at both ends of int.
var edges = []int{
	0, 1, 2, 126, 127, 128, 129, 254, 255, 256, 257, 3070, 3071, 3072, 3073, 65535, 65536,
	-1, -2, -127, -128, -129, -255, -256, -257, -3071, -3072, -3073,
	math.MaxInt, math.MaxInt - 1, math.MaxInt - 127, math.MinInt, math.MinInt + 1, math.MinInt + 128,
}

// wrong are timers that are none, each but the last few by one field alone.
var wrong = []Timer{
	{128, 5, true, 7}, {-1, 5, true, 7}, {math.MaxInt, 5, true, 7}, {math.MinInt, 5, true, 7},
	{5, 128, true, 7}, {5, -1, true, 7}, {5, math.MaxInt, true, 7}, {5, math.MinInt, true, 7},
	{5, 5, true, 3072}, {5, 5, true, -1}, {5, 5, true, math.MaxInt}, {5, 5, true, math.MinInt},
	{5, 5, true, -3072}, {5, 5, true, 6144}, {256, 5, true, 7}, {5, 256, true, 7}, {-128, 5, true, 7}, {5, -128, true, 7},
	{128, 5, false, 0}, {-1, 5, false, 0}, {5, 128, false, 0}, {5, -1, false, 0},
	{5, 5, false, 1}, {5, 5, false, 3071}, {5, 5, false, 3072}, {5, 5, false, -1}, {5, 5, false, math.MaxInt}, {5, 5, false, math.MinInt},
	{math.MaxInt, math.MaxInt, true, math.MaxInt}, {math.MinInt, math.MinInt, true, math.MinInt},
}

// still are timers that are right and not on.
var still = []Timer{{}, {5, 0, false, 0}, {0, 5, false, 0}, {127, 127, false, 0}}

// someTicks are numbers of ticks at the edges, too few, and too many.
var someTicks = []int{
	1, 3071, 3072, 3073, 6144, 393216, 1 << 40, 0, -1, -3072, -1 << 40, 1<<40 + 1, 1 << 41, math.MaxInt, math.MinInt, math.MinInt + 1,
}

// running are the timers that are on with each field at its edges.
func running() []Timer {
	var all []Timer
	for _, reload := range []int{0, 1, 127} {
		for _, count := range []int{0, 1, 127} {
			for _, pre := range []int{0, 1, 3071} {
				all = append(all, Timer{reload, count, true, pre})
			}
		}
	}
	return all
}

// tick goes one tick on, as P10.2 says it, and tells whether it came round.
func tick(t Timer) (Timer, bool) {
	t.Pre++
	if t.Pre != 3072 {
		return t, false
	}
	t.Pre = 0
	if t.Count == 0 {
		t.Count = t.Reload
		return t, true
	}
	t.Count--
	return t, false
}

// walk goes tick by tick, and tells how often it came round.
func walk(t Timer, ticks int) (Timer, int) {
	n := 0
	for range ticks {
		next, came := tick(t)
		if came {
			n++
		}
		t = next
	}
	return t, n
}

// untilRound counts the ticks until it comes round.
func untilRound(t Timer) int {
	for n := 1; ; n++ {
		next, came := tick(t)
		if came {
			return n
		}
		t = next
	}
}

func seeAdvance(t *testing.T, x Timer, ticks int, want Timer, times int) {
	t.Helper()
	if got, n := Advance(x, ticks); got != want || n != times {
		t.Fatalf("Advance(%v, %d) = %v, %d, want %v, %d", x, ticks, got, n, want, times)
	}
}

// inBounds asks field by field, where the package compares whole timers.
func inBounds(x Timer) bool {
	if x.Reload < 0 || x.Reload > 127 || x.Count < 0 || x.Count > 127 {
		return false
	}
	if x.On {
		return x.Pre >= 0 && x.Pre <= 3071
	}
	return x.Pre == 0
}

// TestValid: P10.1, each field at its edges and at both ends of int, one by one and together.
func TestValid(t *testing.T) {
	for _, x := range append(running(), still...) {
		if !Valid(x) {
			t.Errorf("Valid(%v) = false", x)
		}
	}
	for _, x := range wrong {
		if Valid(x) {
			t.Errorf("Valid(%v) = true", x)
		}
	}
	for _, reload := range edges {
		for _, count := range edges {
			for _, pre := range edges {
				for _, on := range []bool{false, true} {
					x := Timer{reload, count, on, pre}
					if Valid(x) != inBounds(x) {
						t.Fatalf("Valid(%v) = %v", x, !inBounds(x))
					}
				}
			}
		}
	}
}

// TestValidEachField: P10.1, each number that a field may have, and those beside them.
func TestValidEachField(t *testing.T) {
	for n := -300; n < 3400; n++ {
		for _, x := range []Timer{{n, 0, true, 0}, {n, 0, false, 0}, {0, n, true, 0}, {0, n, false, 0}, {0, 0, true, n}, {0, 0, false, n}} {
			if Valid(x) != inBounds(x) {
				t.Fatalf("Valid(%v) = %v", x, !inBounds(x))
			}
		}
	}
}

// TestAdvanceNothing: P10.2, timers that are none or stand, and too few or too many ticks, change nothing.
func TestAdvanceNothing(t *testing.T) {
	for _, x := range append(append([]Timer{}, wrong...), still...) {
		for _, ticks := range someTicks {
			seeAdvance(t, x, ticks, x, 0)
		}
	}
	for _, x := range running() {
		for _, ticks := range someTicks {
			if ticks < 1 || ticks > 1<<40 {
				seeAdvance(t, x, ticks, x, 0)
			}
		}
	}
}

// TestAdvanceTable: P10.2, written out.
func TestAdvanceTable(t *testing.T) {
	for _, c := range []struct {
		x     Timer
		ticks int
		want  Timer
		times int
	}{
		{Timer{5, 0, true, 0}, 3072, Timer{5, 5, true, 0}, 1},
		{Timer{5, 0, true, 0}, 3071, Timer{5, 0, true, 3071}, 0},
		{Timer{5, 0, true, 0}, 3073, Timer{5, 5, true, 1}, 1},
		{Timer{5, 1, true, 3071}, 1, Timer{5, 0, true, 0}, 0},
		{Timer{5, 0, true, 3071}, 1, Timer{5, 5, true, 0}, 1},
		{Timer{5, 3, true, 8}, 1, Timer{5, 3, true, 9}, 0},
		{Timer{0, 0, true, 0}, 3072 * 9, Timer{0, 0, true, 0}, 9},
		{Timer{0, 127, true, 0}, 3072 * 127, Timer{0, 0, true, 0}, 0},
		{Timer{0, 127, true, 0}, 3072 * 130, Timer{0, 0, true, 0}, 3},
		{Timer{1, 127, true, 5}, 3072 * 129, Timer{1, 0, true, 5}, 1},
		{Timer{127, 0, true, 0}, 3072 * 129, Timer{127, 127, true, 0}, 2},
		// 2^40 is 357913941 times 3072, and 1024 more.
		{Timer{0, 0, true, 0}, 1 << 40, Timer{0, 0, true, 1024}, 357913941},
		{Timer{1, 0, true, 0}, 1 << 40, Timer{1, 1, true, 1024}, 178956971},
		{Timer{0, 0, true, 3071}, 1 << 40, Timer{0, 0, true, 1023}, 357913942},
	} {
		seeAdvance(t, c.x, c.ticks, c.want, c.times)
	}
}

// TestAdvanceTickByTick: P10.2, each number of ticks over two rounds and more, held against a timer that goes tick by tick.
func TestAdvanceTickByTick(t *testing.T) {
	for _, x := range running() {
		most := untilRound(x) + 2*3072*(x.Reload+1) + 5000
		want, times := x, 0
		for ticks := 1; ticks <= most; ticks++ {
			next, came := tick(want)
			if came {
				times++
			}
			want = next
			seeAdvance(t, x, ticks, want, times)
		}
	}
}

// TestAdvanceEachCount: P10.2, each Reload with each Count, held against a timer that goes step by step.
func TestAdvanceEachCount(t *testing.T) {
	for reload := range 128 {
		for count := range 128 {
			x := Timer{reload, count, true, 100}
			want, times := x, 0
			for steps := 1; steps < 300; steps++ {
				if want.Count == 0 {
					want.Count = reload
					times++
				} else {
					want.Count--
				}
				seeAdvance(t, x, steps*3072, want, times)
			}
		}
	}
}

// TestAdvanceFar: P10.2, so many ticks that they can't be gone one by one: whole rounds of them are left out.
func TestAdvanceFar(t *testing.T) {
	for _, x := range running() {
		first, round := untilRound(x), 3072*(x.Reload+1)
		for _, ticks := range []int{1 << 40, 1<<40 - 1, 1<<40 - 3071, 1<<40 - 3072, 1 << 39, 1<<32 + 5, 1 << 31} {
			rest := (ticks - first) % round
			want, n := walk(x, first+rest)
			seeAdvance(t, x, ticks, want, n+(ticks-first)/round)
		}
	}
}

// TestNext: P10.3, held against a timer that goes tick by tick, and timers that stand.
func TestNext(t *testing.T) {
	for _, x := range append(append([]Timer{}, wrong...), still...) {
		if got := Next(x); got != -1 {
			t.Errorf("Next(%v) = %d, want -1", x, got)
		}
	}
	for _, x := range append(running(), Timer{5, 0, true, 0}, Timer{0, 64, true, 1500}) {
		if got, want := Next(x), untilRound(x); got != want {
			t.Errorf("Next(%v) = %d, want %d", x, got, want)
		}
	}
	for _, c := range []struct {
		x    Timer
		want int
	}{
		{Timer{5, 0, true, 0}, 3072}, {Timer{5, 5, true, 0}, 18432}, {Timer{5, 0, true, 3071}, 1},
		{Timer{0, 127, true, 0}, 393216}, {Timer{0, 127, true, 3071}, 390145}, {Timer{127, 1, true, 2}, 6142},
	} {
		if got := Next(c.x); got != c.want {
			t.Errorf("Next(%v) = %d, want %d", c.x, got, c.want)
		}
	}
}

// modulo divides, where the package masks.
func modulo(n, m int) int { return (n%m + m) % m }

// TestWriteReload: P10.4, at 0 the lowest seven bits, and no other field, of timers of each kind.
func TestWriteReload(t *testing.T) {
	all := append(append(running(), still...), wrong...)
	bytes := append([]int{}, edges...)
	for b := -600; b < 600; b++ {
		bytes = append(bytes, b)
	}
	for _, x := range all {
		for _, b := range bytes {
			want := Timer{modulo(b, 128), x.Count, x.On, x.Pre}
			if got := Write(x, 0, b); got != want {
				t.Fatalf("Write(%v, 0, %d) = %v, want %v", x, b, got, want)
			}
		}
	}
}

// TestWriteControl: P10.4, at 1 the lowest bit turns it on, where it is not, or off.
func TestWriteControl(t *testing.T) {
	for _, x := range append(append(running(), still...), wrong...) {
		for _, b := range edges {
			want := x
			if modulo(b, 2) == 0 {
				want = Timer{x.Reload, x.Count, false, 0}
			} else if !x.On {
				want = Timer{x.Reload, x.Reload, true, 0}
			}
			if got := Write(x, 1, b); got != want {
				t.Fatalf("Write(%v, 1, %d) = %v, want %v", x, b, got, want)
			}
		}
	}
}

// TestWriteTable: P10.4, written out.
func TestWriteTable(t *testing.T) {
	for _, c := range []struct {
		x     Timer
		at, b int
		want  Timer
	}{
		{Timer{}, 0, 0x85, Timer{5, 0, false, 0}},
		{Timer{9, 3, true, 77}, 0, 255, Timer{127, 3, true, 77}},
		{Timer{9, 3, true, 77}, 0, 128, Timer{0, 3, true, 77}},
		{Timer{9, 3, false, 0}, 1, 1, Timer{9, 9, true, 0}},
		{Timer{9, 3, false, 0}, 1, 255, Timer{9, 9, true, 0}},
		{Timer{9, 3, false, 0}, 1, -1, Timer{9, 9, true, 0}},
		{Timer{9, 3, false, 0}, 1, 254, Timer{9, 3, false, 0}},
		{Timer{9, 3, true, 77}, 1, 1, Timer{9, 3, true, 77}},
		{Timer{9, 3, true, 77}, 1, 127, Timer{9, 3, true, 77}},
		{Timer{9, 3, true, 77}, 1, 0, Timer{9, 3, false, 0}},
		{Timer{9, 3, true, 77}, 1, 256, Timer{9, 3, false, 0}},
		{Timer{9, 3, true, 77}, 1, math.MaxInt, Timer{9, 3, true, 77}},
		{Timer{9, 3, true, 77}, 1, math.MinInt, Timer{9, 3, false, 0}},
	} {
		if got := Write(c.x, c.at, c.b); got != c.want {
			t.Errorf("Write(%v, %d, %d) = %v, want %v", c.x, c.at, c.b, got, c.want)
		}
	}
}

// TestWriteElsewhere: P10.4, at no other place is anything changed, also not at such that are 0 or 1 modulo 2, 256 or 65536.
func TestWriteElsewhere(t *testing.T) {
	places := []int{-1, 2, 3, 4, -2, 255, 256, 257, 1024, 1025, 65536, 65537, math.MaxInt, math.MaxInt - 1, math.MinInt, math.MinInt + 1}
	for _, x := range append(append(running(), still...), wrong...) {
		for _, at := range places {
			for _, b := range edges {
				if got := Write(x, at, b); got != x {
					t.Fatalf("Write(%v, %d, %d) = %v", x, at, b, got)
				}
			}
		}
	}
}

// TestRead: P10.4, the count as it stands, of timers that are right and of those that are not.
func TestRead(t *testing.T) {
	for _, x := range append(append(running(), still...), wrong...) {
		if got := Read(x); got != x.Count {
			t.Errorf("Read(%v) = %d", x, got)
		}
	}
	if got := Read(Timer{1, 2, true, 3}); got != 2 {
		t.Errorf("Read = %d, want 2", got)
	}
}

// seeParts goes two ways to the same tick: at once, and by way of an earlier one.
func seeParts(t *testing.T, x Timer, first, second int) {
	t.Helper()
	middle, n := Advance(x, first)
	end, m := Advance(middle, second)
	seeAdvance(t, x, first+second, end, n+m)
}

// TestTwoParts: P10.5, so many ticks at once and in two parts, also where a part is 1.
func TestTwoParts(t *testing.T) {
	parts := []int{1, 2, 3071, 3072, 3073, 6143, 6144, 6145, 100000, 393215, 393216, 393217, 1 << 39}
	for _, x := range running() {
		for _, first := range parts {
			for _, second := range parts {
				seeParts(t, x, first, second)
			}
		}
		seeParts(t, x, 1, 1<<40-1)
		seeParts(t, x, 1<<40-1, 1)
		for first := 1; first < 20000; first += 7 {
			seeParts(t, x, first, 1)
			seeParts(t, x, 1, first)
			seeParts(t, x, first, 20000-first)
		}
	}
}

// TestAheadOfNext: P10.5, it does not come round ahead of Next, and there it does, with Count at Reload and Pre at 0.
func TestAheadOfNext(t *testing.T) {
	for _, x := range running() {
		next := Next(x)
		for ticks := 1; ticks < next; ticks++ {
			if got, n := Advance(x, ticks); n != 0 {
				t.Fatalf("Advance(%v, %d) = %v, %d ahead of Next %d", x, ticks, got, n, next)
			}
		}
		seeAdvance(t, x, next, Timer{x.Reload, x.Reload, true, 0}, 1)
		if next > 1 {
			ahead, _ := Advance(x, next-1)
			if ahead != (Timer{x.Reload, 0, true, 3071}) || Next(ahead) != 1 {
				t.Errorf("one ahead of Next, %v is %v", x, ahead)
			}
		}
	}
}
