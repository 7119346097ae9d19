package noise

import (
	"math"
	"testing"
)

const (
	all = 262144 // one more than the greatest state
	// round is how many steps bring each state back to itself: TestRound walks them.
	round = 131071
)

// tapped are the bits that the highest one behind a step hangs on.
var tapped = [5]int{0, 1, 11, 12, 17}

// none are numbers that are no states, and the states that they are, written out.
var none = []struct{ n, is int }{
	{0, 1}, {all, 1}, {all + 1, 1}, {all + 2, 2}, {2 * all, 1}, {2*all - 1, all - 1}, {1<<40 + 6, 6},
	{-1, all - 1}, {-2, all - 2}, {-all + 1, 1}, {-all, 1}, {-all - 1, all - 1}, {-all + 2, 2},
	{math.MinInt, 1}, {math.MinInt + 1, 1}, {math.MinInt + 2, 2}, {math.MaxInt, all - 1}, {math.MaxInt - 1, all - 2},
}

// some are states with few bits, with many, and with all.
var some = []int{1, 2, 3, 77, 2048, 4096, 6146, 65535, 131071, 131072, 131073, 174762, 200000, 262142, 262143}

// wantStep is what must be, by P21.1's words: bit by bit, by division, where the package shifts the whole.
func wantStep(s int) int {
	var bit [18]int
	for k := range bit {
		bit[k] = s % 2
		s /= 2
	}
	ones := 0
	for _, k := range tapped {
		ones += bit[k]
	}
	to := ones % 2 * 131072
	weight := 1
	for k := 1; k < 18; k++ {
		to += bit[k] * weight
		weight *= 2
	}
	return to
}

// walked is so many calls of Step.
func walked(s, n int) int {
	for range n {
		s = Step(s)
	}
	return s
}

func seeJump(t *testing.T, s, n, want int) {
	t.Helper()
	if got := Jump(s, n); got != want {
		t.Errorf("Jump(%d, %d) = %d, want %d", s, n, got, want)
	}
}

// TestExamples: the chapter's.
func TestExamples(t *testing.T) {
	if got := Step(1); got != 131072 {
		t.Error("Step(1):", got)
	}
	if got := Step(2); got != 131073 {
		t.Error("Step(2):", got)
	}
}

// TestStep: P21.1 of each state, and that what comes out is one.
func TestStep(t *testing.T) {
	for s := 1; s < all; s++ {
		got := Step(s)
		if want := wantStep(s); got != want {
			t.Fatalf("Step(%d) = %d, want %d", s, got, want)
		}
		if got < 1 || got >= all {
			t.Fatalf("Step(%d) = %d is no state", s, got)
		}
	}
}

// TestStepTapped: P21.1, the bits that are asked, alone, in pairs and all together; and each other bit alone.
func TestStepTapped(t *testing.T) {
	asked := 0
	for i, a := range tapped {
		asked |= 1 << a
		if got, want := Step(1<<a), 1<<a/2+131072; got != want {
			t.Errorf("bit %d alone: %d, want %d", a, got, want)
		}
		for _, b := range tapped[:i] {
			if got, want := Step(1<<a|1<<b), 1<<a/2+1<<b/2; got != want {
				t.Errorf("bits %d and %d: %d, want %d", a, b, got, want)
			}
		}
	}
	if got, want := Step(asked), 1+1024+2048+65536+131072; got != want {
		t.Errorf("all five: %d, want %d", got, want)
	}
	for k := range 18 {
		if asked>>k&1 == 0 && Step(1<<k) != 1<<k/2 {
			t.Errorf("bit %d alone: %d, want %d", k, Step(1<<k), 1<<k/2)
		}
	}
}

// TestStepWritten: P21.1, written out, with states whose asked bits are three, four and five among others.
func TestStepWritten(t *testing.T) {
	for _, c := range []struct{ s, want int }{
		{3, 1}, {4, 2}, {6, 131075}, {2051, 132097}, {6147, 3073}, {262143, 262143}, {131072, 196608}, {131073, 65536}, {262142, 131071}, {131071, 65535},
		{0, 131072}, {262144, 131072}, {262145, 131072}, {262146, 131073}, {-1, 262143}, {-2, 131071}, {-262144, 131072}, {math.MinInt, 131072}, {math.MaxInt, 262143},
	} {
		if got := Step(c.s); got != c.want {
			t.Errorf("Step(%d) = %d, want %d", c.s, got, c.want)
		}
	}
}

// TestStepNone: P21.1 of numbers that are no states.
func TestStepNone(t *testing.T) {
	for _, c := range none {
		if got, want := Step(c.n), wantStep(c.is); got != want {
			t.Errorf("Step(%d) = %d, want %d", c.n, got, want)
		}
	}
}

// TestJumpWalked: P21.2 against so many calls of Step, for each number of steps up to some thousands.
func TestJumpWalked(t *testing.T) {
	for _, s := range some {
		want := s
		for n := range 5000 {
			seeJump(t, s, n, want)
			want = Step(want)
		}
	}
	for _, n := range []int{65535, 65536, 65537, 131070, 131071, 131072, 262143, 262144, 1000003} {
		for _, s := range some {
			seeJump(t, s, n, walked(s, n))
		}
	}
}

// TestJumpEach: P21.2 of each state, some steps on.
func TestJumpEach(t *testing.T) {
	for s := 1; s < all; s++ {
		seeJump(t, s, 1, wantStep(s))
		seeJump(t, s, 3, walked(s, 3))
	}
}

// TestJumpNowhere: P21.2, the state as it is, where the number of steps is below 1; a number that is none is the state that it is.
func TestJumpNowhere(t *testing.T) {
	for _, n := range []int{0, -1, -2, -1000, -1 << 62, math.MinInt + 1, math.MinInt} {
		for _, s := range some {
			seeJump(t, s, n, s)
		}
		for _, c := range none {
			seeJump(t, c.n, n, c.is)
		}
	}
}

// TestJumpNone: P21.2 of numbers that are no states.
func TestJumpNone(t *testing.T) {
	for _, c := range none {
		for _, n := range []int{1, 2, 3, 17, 18, 1000} {
			seeJump(t, c.n, n, walked(c.is, n))
		}
		seeJump(t, c.n, math.MaxInt, walked(c.is, 4095))
	}
}

// TestRound: each state comes back behind so many steps, and that many only, but for the one that steps to itself.
func TestRound(t *testing.T) {
	met := make([]int, all)
	for _, first := range []int{1, 2} {
		s := first
		for n := range round {
			if n > 0 && s == first {
				t.Fatalf("%d is back behind %d steps", first, n)
			}
			met[s]++
			s = Step(s)
		}
		if s != first {
			t.Errorf("%d steps on %d is %d", round, first, s)
		}
	}
	if Step(262143) != 262143 {
		t.Error("all bits set are not so behind a step")
	}
	for s := 1; s < all-1; s++ {
		if met[s] != 1 {
			t.Fatalf("%d was met %d times", s, met[s])
		}
	}
}

// TestJumpFar: P21.2 with great numbers of steps. Two to the power of 17 is one more than a round: so what is left of them is written out.
func TestJumpFar(t *testing.T) {
	for _, c := range []struct{ n, left int }{
		{1 << 17, 1}, {1 << 31, 1 << 14}, {1<<31 - 1, 1<<14 - 1}, {1 << 32, 1 << 15}, {1 << 60, 512},
		{1 << 61, 1024}, {1<<61 - 1, 1023}, {1<<61 + 1, 1025}, {1 << 62, 2048}, {1<<62 + 1, 2049}, {1<<62 + 1<<61, 3072},
		{math.MaxInt - 1, 4094}, {math.MaxInt, 4095},
	} {
		if c.n%round != c.left {
			t.Fatalf("of %d steps %d are left, not %d", c.n, c.n%round, c.left)
		}
		for _, s := range some {
			seeJump(t, s, c.n, walked(s, c.left))
		}
	}
	for k := range 63 {
		for _, s := range some {
			seeJump(t, s, 1<<k, walked(s, (1<<k)%round))
		}
	}
}

// TestOut: P21.2, what is heard of each state, and of numbers that are none.
func TestOut(t *testing.T) {
	for s := 1; s < all; s++ {
		if got, want := Out(s), s%2*31; got != want {
			t.Fatalf("Out(%d) = %d, want %d", s, got, want)
		}
	}
	for _, c := range []struct{ s, want int }{
		{0, 31}, {all, 31}, {all + 1, 31}, {all + 2, 0}, {2 * all, 31}, {-1, 31}, {-2, 0}, {-all, 31}, {-all + 2, 0},
		{math.MinInt, 31}, {math.MinInt + 1, 31}, {math.MinInt + 2, 0}, {math.MaxInt, 31}, {math.MaxInt - 1, 0},
	} {
		if got := Out(c.s); got != c.want {
			t.Errorf("Out(%d) = %d, want %d", c.s, got, c.want)
		}
	}
}

// TestPeriod: P21.3 of each number from 0 to 31, and the same with upper bits set.
func TestPeriod(t *testing.T) {
	want := [32]int{
		3968, 3840, 3712, 3584, 3456, 3328, 3200, 3072, 2944, 2816, 2688, 2560, 2432, 2304, 2176, 2048,
		1920, 1792, 1664, 1536, 1408, 1280, 1152, 1024, 896, 768, 640, 512, 384, 256, 128, 64,
	}
	for b, w := range want {
		for _, upper := range []int{0, 32, 64, 128, 224, 256, 1 << 40, 1 << 62, -32, -64, -256, math.MinInt, math.MaxInt - 31} {
			if got := Period(b + upper); got != w {
				t.Errorf("Period(%d) = %d, want %d", b+upper, got, w)
			}
		}
	}
}

// TestPeriodBeyond: P21.3 below 0 and at both ends of Go's int.
func TestPeriodBeyond(t *testing.T) {
	for _, c := range []struct{ b, want int }{
		{-1, 64}, {-2, 128}, {-31, 3840}, {-32, 3968}, {-33, 64}, {math.MinInt, 3968}, {math.MinInt + 31, 64}, {math.MaxInt, 64}, {math.MaxInt - 1, 128},
	} {
		if got := Period(c.b); got != c.want {
			t.Errorf("Period(%d) = %d, want %d", c.b, got, c.want)
		}
	}
}

// TestParts: P21.4, so many steps at once and in two parts, also of numbers that are no states.
func TestParts(t *testing.T) {
	const great = 1 << 60
	parts := []int{0, 1, 2, 17, 18, 999, 4096, 5000, round, great + 1, great + 77777, great + great/2 + 3, 2*great - 1}
	states := append([]int{0, all, -1, math.MinInt, math.MaxInt}, some...)
	for _, s := range states {
		for _, first := range parts {
			for _, second := range parts {
				if got, want := Jump(Jump(s, first), second), Jump(s, first+second); got != want {
					t.Errorf("%d, %d and %d steps on, is %d; at once %d", s, first, second, got, want)
				}
			}
		}
		if got, want := Jump(Jump(s, 1<<62), 1<<62-1), Jump(s, math.MaxInt); got != want {
			t.Errorf("%d, the most steps on in two parts, is %d; at once %d", s, got, want)
		}
	}
}

// TestFromJustOne: P21.4, no two states step to the same, and each comes out of one; of many steps too.
func TestFromJustOne(t *testing.T) {
	for _, n := range []int{1, 2, 1000} {
		from := make([]int, all)
		for s := 1; s < all; s++ {
			to := Jump(s, n)
			if n == 1 {
				to = Step(s)
			}
			if to < 1 || to >= all {
				t.Fatalf("%d, %d steps on, is %d: no state", s, n, to)
			}
			if from[to] != 0 {
				t.Fatalf("%d steps on, %d and %d are both %d", n, from[to], s, to)
			}
			from[to] = s
		}
	}
}
