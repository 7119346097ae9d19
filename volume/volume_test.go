package volume

import (
	"math"
	"testing"
)

// written is what P20.1 says of each number from 0 to 31.
func written() []int {
	return []int{
		1024, 862, 725, 610, 513, 432, 363, 306, 257, 216, 182, 153, 129, 108, 91, 77, 65,
		54, 46, 38, 32, 27, 23, 19, 16, 14, 11, 10, 8, 7, 6, 0,
	}
}

// modulo is from 0 on, by division, where the package takes bits.
func modulo(n, m int) int { return (n%m + m) % m }

// wantGain is what must be, by P20.2's words, of the levels as written.
func wantGain(volume, balance, main int) int {
	steps := 31 - modulo(volume, 32)
	steps += 2 * (15 - modulo(balance, 16))
	steps += 2 * (15 - modulo(main, 16))
	if steps > 31 {
		return 0
	}
	return written()[steps]
}

func see(t *testing.T, volume, balance, main int) {
	t.Helper()
	if got, want := Gain(volume, balance, main), wantGain(volume, balance, main); got != want {
		t.Errorf("Gain(%d, %d, %d) = %d, want %d", volume, balance, main, got, want)
	}
}

// TestExamples: the chapter's, and the whole's ninth: four steps are half as loud.
func TestExamples(t *testing.T) {
	if got := Gain(31, 15, 15); got != 1024 {
		t.Error("Gain(31, 15, 15):", got)
	}
	if got := Gain(30, 15, 15); got != 862 {
		t.Error("Gain(30, 15, 15):", got)
	}
	for n := range 27 {
		// Levels are rounded, and four steps are six decibels: not to the last place a half.
		if twice := 2 * Level(n+4); twice < Level(n)-3 || twice > Level(n)+3 {
			t.Errorf("Level(%d) = %d, twice Level(%d) = %d", n, Level(n), n+4, twice)
		}
	}
}

// TestLevel: P20.1 of each number that has a level of its own.
func TestLevel(t *testing.T) {
	if len(written()) != 32 {
		t.Fatal("there must be 32 levels")
	}
	for n, want := range written() {
		if got := Level(n); got != want {
			t.Errorf("Level(%d) = %d, want %d", n, got, want)
		}
	}
}

// TestLevelBeyond: P20.1 below 0 and above 31, up to both ends of Go's int.
func TestLevelBeyond(t *testing.T) {
	for _, n := range []int{-1, -2, -5, -31, -32, -33, -256, math.MinInt32, math.MinInt + 1, math.MinInt} {
		if got := Level(n); got != 1024 {
			t.Errorf("Level(%d) = %d, want 1024", n, got)
		}
	}
	for _, n := range []int{32, 33, 34, 62, 63, 64, 91, 256, math.MaxInt32, math.MaxInt - 1, math.MaxInt} {
		if got := Level(n); got != 0 {
			t.Errorf("Level(%d) = %d, want 0", n, got)
		}
	}
}

// TestGainWritten: P20.2, written out: what a step of each is worth, and that they are put together.
func TestGainWritten(t *testing.T) {
	for _, c := range []struct{ volume, balance, main, want int }{
		{31, 15, 15, 1024}, {30, 15, 15, 862}, {29, 15, 15, 725}, {27, 15, 15, 513}, {16, 15, 15, 77}, {2, 15, 15, 7}, {1, 15, 15, 6}, {0, 15, 15, 0},
		{31, 14, 15, 725}, {31, 13, 15, 513}, {31, 8, 15, 91}, {31, 1, 15, 8}, {31, 0, 15, 6},
		{31, 15, 14, 725}, {31, 15, 13, 513}, {31, 15, 8, 91}, {31, 15, 1, 8}, {31, 15, 0, 6},
		{30, 14, 15, 610}, {30, 15, 14, 610}, {31, 14, 14, 513}, {30, 14, 14, 432},
		{31, 14, 0, 0}, {31, 0, 14, 0}, {30, 0, 15, 0}, {30, 15, 0, 0}, {31, 8, 7, 6}, {30, 8, 7, 0}, {31, 7, 7, 0},
		{16, 12, 11, 7}, {15, 12, 11, 6}, {14, 12, 11, 0}, {31, 0, 0, 0}, {0, 0, 0, 0},
	} {
		if got := Gain(c.volume, c.balance, c.main); got != c.want {
			t.Errorf("Gain(%d, %d, %d) = %d, want %d", c.volume, c.balance, c.main, got, c.want)
		}
	}
}

// TestGainAll: P20.2 of every volume, balance and main, against the levels as written and against Level.
func TestGainAll(t *testing.T) {
	for volume := range 32 {
		for balance := range 16 {
			for main := range 16 {
				see(t, volume, balance, main)
				n := 31 - volume + 2*(15-balance) + 2*(15-main)
				if got, want := Gain(volume, balance, main), Level(n); got != want {
					t.Errorf("Gain(%d, %d, %d) = %d, Level(%d) = %d", volume, balance, main, got, n, want)
				}
			}
		}
	}
}

// TestGainModulo: P20.2, each alone beyond its bounds, with all of the two others, written out.
func TestGainModulo(t *testing.T) {
	for _, v := range []struct{ n, is int }{{32, 0}, {33, 1}, {63, 31}, {-1, 31}, {-31, 1}, {-32, 0}, {math.MinInt, 0}, {math.MaxInt, 31}} {
		for balance := range 16 {
			for main := range 16 {
				same(t, [3]int{v.n, balance, main}, [3]int{v.is, balance, main})
			}
		}
	}
	for _, side := range []struct{ n, is int }{{16, 0}, {17, 1}, {31, 15}, {-1, 15}, {-15, 1}, {-16, 0}, {math.MinInt, 0}, {math.MaxInt, 15}} {
		for volume := range 32 {
			for other := range 16 {
				same(t, [3]int{volume, side.n, other}, [3]int{volume, side.is, other})
				same(t, [3]int{volume, other, side.n}, [3]int{volume, other, side.is})
			}
		}
	}
}

// same sees that Gain of what is beyond bounds is Gain of what it is within them.
func same(t *testing.T, beyond, within [3]int) {
	t.Helper()
	got, want := Gain(beyond[0], beyond[1], beyond[2]), Gain(within[0], within[1], within[2])
	if got != want {
		t.Errorf("Gain of %v = %d, of %v = %d", beyond, got, within, want)
	}
}

// TestGainTogether: P20.2, all beyond their bounds together, and with such as are within them.
func TestGainTogether(t *testing.T) {
	for _, c := range []struct{ volume, balance, main, want int }{
		{-1, -1, -1, 1024}, {63, 31, 31, 1024}, {math.MaxInt, math.MaxInt, math.MaxInt, 1024},
		{32, 16, 16, 0}, {33, 17, 17, 0}, {math.MinInt, math.MinInt, math.MinInt, 0},
		{-2, -1, 31, 862}, {62, 30, -1, 610}, {63, -2, -2, 513}, {-1, 16, -1, 6}, {-1, 17, -1, 8}, {-1, 31, 17, 8},
		{33, -1, -1, 6}, {32, -1, -1, 0}, {math.MaxInt, math.MinInt, math.MaxInt, 6}, {math.MaxInt, math.MaxInt, math.MinInt, 6},
	} {
		if got := Gain(c.volume, c.balance, c.main); got != c.want {
			t.Errorf("Gain(%d, %d, %d) = %d, want %d", c.volume, c.balance, c.main, got, c.want)
		}
	}
	ends := []int{math.MinInt, math.MinInt + 1, math.MinInt + 15, math.MaxInt - 15, math.MaxInt - 1, math.MaxInt}
	volumes := append([]int{-33, -32, -31, -2, -1, 0, 1, 15, 16, 30, 31, 32, 33, 62, 63, 64}, ends...)
	sides := append([]int{-17, -16, -15, -2, -1, 0, 1, 14, 15, 16, 17, 30, 31, 32}, ends...)
	for _, volume := range volumes {
		for _, balance := range sides {
			for _, main := range sides {
				see(t, volume, balance, main)
			}
		}
	}
}

// TestLevelFalls: P20.3, what is more attenuated is nowhere louder.
func TestLevelFalls(t *testing.T) {
	numbers := []int{math.MinInt, math.MinInt + 1}
	for n := -70; n <= 130; n++ {
		numbers = append(numbers, n)
	}
	numbers = append(numbers, math.MaxInt-1, math.MaxInt)
	for i, n := range numbers[1:] {
		if less := numbers[i]; Level(n) > Level(less) {
			t.Errorf("Level(%d) = %d is above Level(%d) = %d", n, Level(n), less, Level(less))
		}
	}
}

// TestGainRises: P20.3, one more of each, within its bounds, is nowhere less loud.
func TestGainRises(t *testing.T) {
	for volume := range 32 {
		for balance := range 16 {
			for main := range 16 {
				here := Gain(volume, balance, main)
				if volume < 31 && Gain(volume+1, balance, main) < here {
					t.Errorf("a volume above %d, with %d and %d, is less loud", volume, balance, main)
				}
				if balance < 15 && Gain(volume, balance+1, main) < here {
					t.Errorf("a balance above %d, with %d and %d, is less loud", balance, volume, main)
				}
				if main < 15 && Gain(volume, balance, main+1) < here {
					t.Errorf("a main above %d, with %d and %d, is less loud", main, volume, balance)
				}
			}
		}
	}
}

// TestSilence: P20.3, volume 0 is not heard, also one that is 0 modulo 32; the least that is heard is volume 1 on a full side.
func TestSilence(t *testing.T) {
	for balance := range 16 {
		for main := range 16 {
			for _, volume := range []int{0, 32, 64, -32, math.MinInt} {
				if got := Gain(volume, balance, main); got != 0 {
					t.Errorf("Gain(%d, %d, %d) = %d, want 0", volume, balance, main, got)
				}
			}
		}
	}
	if Gain(1, 15, 15) == 0 {
		t.Error("volume 1 on a full side is not heard")
	}
}
