package bits

import (
	"math"
	"testing"
)

// modulo is reckoned by division alone, so that it shares nothing with the masks that are tested.
func modulo(n, m int) int {
	if r := n % m; r < 0 {
		return r + m
	} else {
		return r
	}
}

// bitOf tells the k-th bit of a number that is not below 0, by division alone.
func bitOf(n, k int) int {
	for range k {
		n /= 2
	}
	return n % 2
}

// numbers are ordinary ones, the edges of bytes and words on both sides of 0, and both ends of int.
func numbers() []int {
	list := []int{5, 42, 200, 4660, 43981, -5, -42, -200, -4660, math.MaxInt / 3, math.MaxInt / 5, math.MinInt / 3, math.MinInt / 5}
	for _, edge := range []int{0, 128, 256, 32768, 65536, 1 << 17, math.MaxInt32, math.MaxInt/2 + 1} {
		list = append(list, edge-1, edge, edge+1, -edge-1, -edge, -edge+1)
	}
	return append(list, math.MinInt, math.MinInt+1, math.MinInt+128, math.MinInt+255, math.MaxInt-128, math.MaxInt-1, math.MaxInt)
}

// noBits are bits' numbers that no word has.
func noBits() []int {
	return []int{-1, -2, -15, -16, -64, math.MinInt, math.MinInt + 1, math.MinInt + 64, 16, 17, 31, 32, 63, 64, 256, 65536, math.MaxInt - 1, math.MaxInt}
}

// P1.1.
func TestByteAndWord(t *testing.T) {
	cases := []struct{ n, b, w int }{
		{0, 0, 0}, {1, 1, 1}, {255, 255, 255}, {256, 0, 256}, {257, 1, 257},
		{65535, 255, 65535}, {65536, 0, 0}, {65537, 1, 1},
		{-1, 255, 65535}, {-255, 1, 65281}, {-256, 0, 65280}, {-257, 255, 65279},
		{-65535, 1, 1}, {-65536, 0, 0}, {-65537, 255, 65535},
		{math.MaxInt, 255, 65535}, {math.MaxInt - 255, 0, 65280}, {math.MinInt, 0, 0}, {math.MinInt + 1, 1, 1},
	}
	for _, c := range cases {
		if Byte(c.n) != c.b || Word(c.n) != c.w {
			t.Errorf("%d: byte %d, word %d, not %d, %d", c.n, Byte(c.n), Word(c.n), c.b, c.w)
		}
	}
	for n := -140000; n <= 140000; n++ {
		checkModulo(t, n)
	}
	for _, n := range numbers() {
		checkModulo(t, n)
	}
}

func checkModulo(t *testing.T, n int) {
	t.Helper()
	if Byte(n) != modulo(n, 256) || Word(n) != modulo(n, 65536) {
		t.Errorf("%d: byte %d, word %d", n, Byte(n), Word(n))
	}
}

// P1.2.
func TestJoinAndSplit(t *testing.T) {
	cases := []struct{ low, high, w int }{
		{0x34, 0x12, 0x1234}, {0, 0, 0}, {255, 0, 255}, {0, 255, 65280}, {255, 255, 65535},
		{256, 256, 0}, {0x134, 0x212, 0x1234}, {-1, 0, 255}, {0, -1, 65280}, {-1, -1, 65535},
		{math.MaxInt, math.MinInt, 255}, {math.MinInt, math.MaxInt, 65280},
	}
	for _, c := range cases {
		if got := Join(c.low, c.high); got != c.w {
			t.Errorf("Join(%d, %d) = %d, not %d", c.low, c.high, got, c.w)
		}
	}
	for _, a := range numbers() {
		for _, b := range numbers() {
			if got := Join(a, b); got != modulo(a, 256)+256*modulo(b, 256) {
				t.Errorf("Join(%d, %d) = %d", a, b, got)
			}
		}
		checkSplit(t, a)
	}
	for w := range 65536 {
		checkSplit(t, w)
	}
}

func checkSplit(t *testing.T, w int) {
	t.Helper()
	low, high := Split(w)
	if low != modulo(w, 256) || high != modulo(w, 65536)/256 {
		t.Errorf("Split(%d) = %d, %d", w, low, high)
	}
}

// P1.3.
func TestSigned(t *testing.T) {
	cases := []struct{ b, want int }{
		{0, 0}, {1, 1}, {126, 126}, {127, 127}, {128, -128}, {129, -127}, {200, -56}, {255, -1},
		{256, 0}, {383, 127}, {384, -128}, {65535, -1}, {65536, 0},
		{-1, -1}, {-128, -128}, {-129, 127}, {-256, 0},
		{math.MaxInt, -1}, {math.MaxInt - 127, -128}, {math.MaxInt - 128, 127},
		{math.MinInt, 0}, {math.MinInt + 127, 127}, {math.MinInt + 128, -128},
	}
	for _, c := range cases {
		if got := Signed(c.b); got != c.want {
			t.Errorf("Signed(%d) = %d, not %d", c.b, got, c.want)
		}
	}
	for _, n := range numbers() {
		want := modulo(n, 256)
		if want >= 128 {
			want -= 256
		}
		if got := Signed(n); got != want {
			t.Errorf("Signed(%d) = %d, not %d", n, got, want)
		}
	}
}

// P1.4: Bit.
func TestBit(t *testing.T) {
	cases := []struct{ n, k, want int }{
		{4, 2, 1}, {4, 1, 0}, {4, 3, 0}, {1, 0, 1}, {2, 0, 0}, {32768, 15, 1}, {32767, 15, 0},
		{65536, 0, 0}, {65536, 15, 0}, {65536 + 32768, 15, 1}, {-1, 0, 1}, {-1, 15, 1}, {-2, 0, 0}, {-32769, 15, 0},
		{math.MaxInt, 15, 1}, {math.MinInt, 15, 0}, {math.MinInt + 1, 0, 1},
	}
	for _, c := range cases {
		if got := Bit(c.n, c.k); got != c.want {
			t.Errorf("Bit(%d, %d) = %d, not %d", c.n, c.k, got, c.want)
		}
	}
	for _, n := range numbers() {
		for k := range 16 {
			if got := Bit(n, k); got != bitOf(modulo(n, 65536), k) {
				t.Errorf("Bit(%d, %d) = %d", n, k, got)
			}
		}
		for _, k := range noBits() {
			if got := Bit(n, k); got != 0 {
				t.Errorf("Bit(%d, %d) = %d, not 0", n, k, got)
			}
		}
	}
}

// P1.4: Put.
func TestPut(t *testing.T) {
	cases := []struct {
		n, k int
		on   bool
		want int
	}{
		{0, 3, true, 8}, {8, 3, true, 8}, {15, 0, false, 14}, {14, 0, false, 14},
		{0, 0, true, 1}, {0, 15, true, 32768}, {65535, 15, false, 32767}, {65535, 0, false, 65534},
		{65536, 0, true, 1}, {65536, 15, false, 0}, {-1, 15, false, 32767}, {-1, 0, true, 65535}, {-65536, 15, true, 32768},
		{math.MaxInt, 0, false, 65534}, {math.MinInt, 15, true, 32768},
		{-1, 16, false, 65535}, {65537, 16, true, 1}, {65537, -1, true, 1}, {-1, -1, false, 65535},
	}
	for _, c := range cases {
		if got := Put(c.n, c.k, c.on); got != c.want {
			t.Errorf("Put(%d, %d, %v) = %d, not %d", c.n, c.k, c.on, got, c.want)
		}
	}
	for _, n := range numbers() {
		weight := 1
		for k := range 16 {
			clear := modulo(n, 65536) - weight*bitOf(modulo(n, 65536), k)
			checkPut(t, n, k, clear, clear+weight)
			weight *= 2
		}
		for _, k := range noBits() {
			checkPut(t, n, k, modulo(n, 65536), modulo(n, 65536))
		}
	}
}

func checkPut(t *testing.T, n, k, off, on int) {
	t.Helper()
	if Put(n, k, false) != off || Put(n, k, true) != on {
		t.Errorf("Put(%d, %d): off %d, on %d, not %d, %d", n, k, Put(n, k, false), Put(n, k, true), off, on)
	}
}

// P1.5: Reverse.
func TestReverse(t *testing.T) {
	cases := []struct{ b, want int }{
		{0, 0}, {1, 128}, {128, 1}, {0x13, 0xc8}, {15, 240}, {255, 255}, {2, 64},
		{256, 0}, {257, 128}, {-1, 255}, {-128, 1}, {-256, 0}, {math.MaxInt, 255}, {math.MinInt, 0}, {math.MinInt + 1, 128},
	}
	for _, c := range cases {
		if got := Reverse(c.b); got != c.want {
			t.Errorf("Reverse(%d) = %d, not %d", c.b, got, c.want)
		}
	}
	for b := range 256 {
		checkReverse(t, b)
	}
	for _, n := range numbers() {
		checkReverse(t, n)
	}
}

func checkReverse(t *testing.T, b int) {
	t.Helper()
	got := Reverse(b)
	for k := range 8 {
		if got < 0 || got > 255 || bitOf(got, 7-k) != bitOf(modulo(b, 256), k) {
			t.Errorf("Reverse(%d) = %d: bit %d", b, got, k)
		}
	}
}

// P1.5: Ones.
func TestOnes(t *testing.T) {
	cases := []struct{ w, want int }{
		{0, 0}, {1, 1}, {0x1ff, 9}, {32768, 1}, {65535, 16}, {65536, 0}, {65537, 1},
		{-1, 16}, {-2, 15}, {-65536, 0}, {math.MaxInt, 16}, {math.MinInt, 0}, {math.MinInt + 1, 1},
	}
	for _, c := range cases {
		if got := Ones(c.w); got != c.want {
			t.Errorf("Ones(%d) = %d, not %d", c.w, got, c.want)
		}
	}
	for w := range 65536 {
		checkOnes(t, w)
	}
	for _, n := range numbers() {
		checkOnes(t, n)
	}
}

func checkOnes(t *testing.T, w int) {
	t.Helper()
	want := 0
	for k := range 16 {
		want += bitOf(modulo(w, 65536), k)
	}
	if got := Ones(w); got != want {
		t.Errorf("Ones(%d) = %d, not %d", w, got, want)
	}
}

// P1.6: Join of Split, and Reverse of Reverse.
func TestThereAndBack(t *testing.T) {
	for w := range 65536 {
		checkBack(t, w)
	}
	for _, n := range numbers() {
		checkBack(t, n)
	}
}

func checkBack(t *testing.T, n int) {
	t.Helper()
	if got := Join(Split(n)); got != modulo(n, 65536) {
		t.Errorf("Join of Split of %d is %d", n, got)
	}
	if got := Reverse(Reverse(n)); got != modulo(n, 256) {
		t.Errorf("Reverse of Reverse of %d is %d", n, got)
	}
}

// P1.6: a Put bit is told by Bit, and the others stay.
func TestPutIsToldByBit(t *testing.T) {
	list := numbers()
	for w := range 65536 {
		list = append(list, w)
	}
	for _, n := range list {
		for k := range 16 {
			checkTold(t, n, k, false, 0)
			checkTold(t, n, k, true, 1)
		}
	}
}

func checkTold(t *testing.T, n, k int, on bool, bit int) {
	t.Helper()
	got := Put(n, k, on)
	for j := range 16 {
		want := Bit(n, j)
		if j == k {
			want = bit
		}
		if Bit(got, j) != want {
			t.Errorf("Put(%d, %d, %v) = %d: bit %d is %d, not %d", n, k, on, got, j, Bit(got, j), want)
		}
	}
}
