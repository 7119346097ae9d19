package regs

import (
	"math"
	"testing"
)

// may is the bits that each register may have, the highest first, as the chapter lists them in hex.
var may = [20]string{
	"1111111111111111", // 0: ffff
	"1111111111111111", // 1: ffff
	"1111111111111111", // 2: ffff
	"0000000000000000", // 3: 0
	"0000000000000000", // 4: 0
	"0001111111111111", // 5: 1fff
	"0000001111111111", // 6: 3ff
	"0000001111111111", // 7: 3ff
	"0000000111111111", // 8: 1ff
	"0000000011111111", // 9: ff
	"0111111100011111", // 10: 7f1f
	"0111111101111111", // 11: 7f7f
	"1111111100011111", // 12: ff1f
	"0000000111111111", // 13: 1ff
	"0000000011111111", // 14: ff
	"0000000000011111", // 15: 1f
	"1111111111111111", // 16: ffff
	"1111111111111111", // 17: ffff
	"1111111111111111", // 18: ffff
	"1111111111111111", // 19: ffff
}

// atLowBrings and atHighBrings are what a write at 2, and at 3, brings about with each Sel from 0 to 19.
var (
	atLowBrings  = [20]int{0: 1, 2: 3}
	atHighBrings = [20]int{0: 1, 1: 2, 2: 4, 5: 5, 18: 6, 19: 7}
)

// values are bytes and words at and beside the numbers that the chapter cuts at, with bits that no register has, below 0, and at both ends of int.
var values = []int{
	0, 1, 2, 31, 32, 63, 64, 65, 127, 128, 254, 255, 256, 257, 511, 512, 1023, 1024, 4660, 8191, 8192, 32767, 32768, 43690, 65280, 65534, 65535,
	65536, 65537, 65600, 65791, 131071, 1 << 20, 1<<40 + 4660,
	-1, -2, -32, -64, -255, -256, -257, -4660, -65535, -65536, -65537,
	math.MaxInt, math.MaxInt - 1, math.MaxInt - 255, math.MinInt, math.MinInt + 1, math.MinInt + 255, math.MinInt + 4660,
}

// sels are all that may be chosen, and what may not: beside both ends, some that end as registers do, and both ends of int.
var sels = []int{
	0, 1, 2, 3, 4, 5, 6, 7, 8, 9, 10, 11, 12, 13, 14, 15, 16, 17, 18, 19,
	20, 21, 25, 30, 31, 32, 33, 34, 37, 50, 51, 64, 256, 258, 65536,
	-1, -2, -12, -13, -14, -20, -32, -65536, math.MaxInt, math.MaxInt - 26, math.MinInt, math.MinInt + 2, math.MinInt + 19,
}

// elsewhere are the places of which nothing is told, and some far off that end as those that have something.
var elsewhere = []int{
	1, 4, 5, 6, 7, 8, 10, 11, 256, 258, 259, 65536, 65538, 65539, 1024,
	-1, -2, -3, -4, -8, math.MaxInt, math.MaxInt - 1, math.MaxInt - 3, math.MinInt, math.MinInt + 2, math.MinInt + 3,
}

// modulo is n modulo m, from 0 on: by division, where the package takes masks.
func modulo(n, m int) int { return (n%m + m) % m }

// bit tells the k-th bit of n modulo 65536.
func bit(n, k int) int {
	n = modulo(n, 65536)
	for range k {
		n /= 2
	}
	return n % 2
}

// kept is what register k keeps of n.
func kept(k, n int) int {
	sum, worth := 0, 1
	for at := range 16 {
		if may[k][15-at] == '1' {
			sum += worth * bit(n, at)
		}
		worth *= 2
	}
	return sum
}

// halved is n modulo 65536 with the low byte b (at 2), or the high one (at 3).
func halved(n, at, b int) int {
	n, b = modulo(n, 65536), modulo(b, 256)
	if at == 2 {
		return n/256*256 + b
	}
	return b*256 + n%256
}

// odd has numbers of its own in all registers, of which most may not be: above 65535, and below 0.
func odd(sel int) Regs {
	r := Regs{Sel: sel}
	for k := range r.R {
		r.R[k] = k*7919777 - 50000017
	}
	return r
}

// full has in each register all that it may have.
func full(sel int) Regs {
	r := Regs{Sel: sel}
	for k := range r.R {
		r.R[k] = kept(k, 65535)
	}
	return r
}

// with is an odd one with n in register k.
func with(k, n int) Regs {
	r := odd(7)
	r.R[k] = n
	return r
}

// see holds what Write tells against what it should.
func see(t *testing.T, r Regs, at, b int, want Regs, brings int) {
	t.Helper()
	got, e := Write(r, at, b)
	if e != brings {
		t.Errorf("Write of %d at %d, Sel %d, brings about %d, want %d", b, at, r.Sel, e, brings)
	}
	if got.Sel != want.Sel {
		t.Errorf("Write of %d at %d, Sel %d: Sel is %d, want %d", b, at, r.Sel, got.Sel, want.Sel)
	}
	for k := range want.R {
		if got.R[k] != want.R[k] {
			t.Errorf("Write of %d at %d, Sel %d: register %d was %d, is %x, want %x", b, at, r.Sel, k, r.R[k], got.R[k], want.R[k])
		}
	}
}

// TestExample: the chapter's example.
func TestExample(t *testing.T) {
	r := Regs{Sel: 5}
	r.R[5] = 0x34
	want := r
	want.R[5] = 0x834
	see(t, r, 3, 8, want, Step)
	if far := Far(want); far != 32 {
		t.Errorf("Far is %d, want 32", far)
	}
}

// TestNumbers: P15.2, the numbers of what is brought about.
func TestNumbers(t *testing.T) {
	got := [8]int{None, SetWrite, SetRead, PutLow, PutHigh, Step, Move, Sat}
	if want := [8]int{0, 1, 2, 3, 4, 5, 6, 7}; got != want {
		t.Errorf("%v, want %v", got, want)
	}
}

// TestFresh: P15.1, all 0, and Valid.
func TestFresh(t *testing.T) {
	if r := Fresh(); r != (Regs{}) || !Valid(r) {
		t.Errorf("%v", r)
	}
}

// TestValidSel: P15.1, Sel from 0 to 31.
func TestValidSel(t *testing.T) {
	for _, sel := range append(sels, values...) {
		want := sel >= 0 && sel <= 31
		for _, r := range []Regs{{Sel: sel}, full(sel)} {
			if Valid(r) != want {
				t.Errorf("Valid with Sel %d is %v", sel, !want)
			}
		}
	}
	for sel, want := range map[int]bool{-1: false, 0: true, 19: true, 20: true, 31: true, 32: false, math.MaxInt: false, math.MinInt: false} {
		if Valid(Regs{Sel: sel}) != want {
			t.Errorf("Valid with Sel %d is %v", sel, !want)
		}
	}
}

// TestValidRegister: P15.1, each register alone, with all its bits, with each single bit, and with numbers that are no words.
func TestValidRegister(t *testing.T) {
	see := func(k, n int, want bool) {
		t.Helper()
		empty, rest := Fresh(), full(k)
		empty.R[k], rest.R[k] = n, n
		if Valid(empty) != want || Valid(rest) != want {
			t.Errorf("Valid with %x in register %d is not %v", n, k, want)
		}
	}
	for k := range 20 {
		all := kept(k, 65535)
		see(k, 0, true)
		see(k, all, true)
		for at, single := 0, 1; at < 63; at, single = at+1, single*2 {
			may := at < 16 && may[k][15-at] == '1'
			see(k, single, may)
			if !may {
				see(k, all+single, false)
			}
		}
		for _, n := range []int{65536, 65536 + all, -1, -2, -65536, all - 65536, math.MaxInt, math.MaxInt - 1, math.MinInt, math.MinInt + 1, math.MinInt + all} {
			see(k, n, false)
		}
		for _, n := range values {
			see(k, n, n == kept(k, n))
		}
	}
}

// TestValidWord: P15.1, each word in each register.
func TestValidWord(t *testing.T) {
	for k := range 20 {
		for n := range 65536 {
			r := Fresh()
			r.R[k] = n
			if want := n == kept(k, n); Valid(r) != want {
				t.Fatalf("Valid with %x in register %d is %v", n, k, !want)
			}
		}
	}
}

// TestWriteSel: P15.2, at 0 Sel is the lowest five bits of b, whatever it was, and nothing else is changed or brought about.
func TestWriteSel(t *testing.T) {
	for _, sel := range sels {
		for _, b := range values {
			for _, r := range []Regs{odd(sel), full(sel)} {
				want := r
				want.Sel = modulo(b, 32)
				see(t, r, 0, b, want, None)
			}
		}
	}
	for b, want := range map[int]int{0: 0, 1: 1, 19: 19, 20: 20, 31: 31, 32: 0, 37: 5, 255: 31, 256: 0, -1: 31, -32: 0, math.MaxInt: 31, math.MinInt: 0} {
		if r, _ := Write(Regs{Sel: 3}, 0, b); r.Sel != want {
			t.Errorf("Sel behind %d is %d, want %d", b, r.Sel, want)
		}
	}
}

// TestWriteElsewhere: P15.2, at all other places nothing is changed, not even what may not be, and nothing is brought about.
func TestWriteElsewhere(t *testing.T) {
	for _, at := range elsewhere {
		for _, sel := range sels {
			for _, b := range values {
				see(t, odd(sel), at, b, odd(sel), None)
				see(t, full(sel), at, b, full(sel), None)
			}
		}
	}
}

// TestWriteNoRegister: P15.2, at 2 and 3, where Sel is no register's number, nothing is changed or brought about.
func TestWriteNoRegister(t *testing.T) {
	for _, sel := range sels {
		if sel >= 0 && sel <= 19 {
			continue
		}
		for _, b := range values {
			for at := 2; at <= 3; at++ {
				see(t, odd(sel), at, b, odd(sel), None)
				see(t, full(sel), at, b, full(sel), None)
			}
		}
	}
}

// TestWriteRegister: P15.2, at 2 and 3 one byte of the register is b, the other stays, but for bits that it may not have, and no other register is changed.
func TestWriteRegister(t *testing.T) {
	for sel := range 20 {
		for _, n := range values {
			for _, b := range values {
				r := odd(sel)
				r.R[sel] = n
				low, high := r, r
				low.R[sel] = kept(sel, halved(n, 2, b))
				high.R[sel] = kept(sel, halved(n, 3, b))
				see(t, r, 2, b, low, atLowBrings[sel])
				see(t, r, 3, b, high, atHighBrings[sel])
			}
		}
	}
}

// TestWriteWritten: P15.2, single writes written out.
func TestWriteWritten(t *testing.T) {
	for _, c := range []struct{ sel, was, at, b, want, brings int }{
		{0, 0x1234, 2, 0xff, 0x12ff, SetWrite},
		{0, 0x1234, 3, 0xff, 0xff34, SetWrite},
		{0, -1, 2, 0, 0xff00, SetWrite},
		{1, 0x1234, 2, 0xff, 0x12ff, None},
		{1, 0x1234, 3, 0xff, 0xff34, SetRead},
		{2, 0x1234, 2, 0x156, 0x1256, PutLow},
		{2, 0x1234, 3, -1, 0xff34, PutHigh},
		{3, 0, 2, 0xff, 0, None},
		{3, 0, 3, 0xff, 0, None},
		{3, 0xffff, 2, 0xff, 0, None},
		{4, 0, 2, 0xff, 0, None},
		{4, -1, 3, 0xff, 0, None},
		{5, 0, 2, 0xcc, 0xcc, None},
		{5, 0xcc, 3, 0xf8, 0x18cc, Step},
		{5, 0xffff, 2, 0, 0x1f00, None},
		{5, 0x1ffff, 2, 0x100, 0x1f00, None},
		{6, 0xff, 3, 0xff, 0x3ff, None},
		{6, 0xffff, 2, 0, 0x300, None},
		{7, 0, 3, math.MaxInt, 0x300, None},
		{8, 0, 3, 0xff, 0x100, None},
		{9, 0x50, 3, 0xff, 0x50, None},
		{9, 0xffff, 2, 0x50, 0x50, None},
		{10, 0, 2, 0xff, 0x1f, None},
		{10, 0x1f, 3, 0xff, 0x7f1f, None},
		{10, 0xff, 3, 0, 0x1f, None},
		{11, 0, 2, 0xff, 0x7f, None},
		{11, 0, 3, 0xff, 0x7f00, None},
		{12, 0, 2, 0xff, 0x1f, None},
		{12, 0, 3, 0xff, 0xff00, None},
		{13, 0, 3, 0xff, 0x100, None},
		{14, 0xef, 3, 0xff, 0xef, None},
		{15, 0, 2, 0xff, 0x1f, None},
		{15, 0x1f, 3, 0xff, 0x1f, None},
		{16, 0x1234, 3, 0x80, 0x8034, None},
		{17, 0x1234, 3, 0x80, 0x8034, None},
		{18, 0x1234, 2, 0x80, 0x1280, None},
		{18, 0x1234, 3, 0x80, 0x8034, Move},
		{19, 0x1234, 2, 0x80, 0x1280, None},
		{19, 0x1234, 3, math.MinInt, 0x34, Sat},
	} {
		r := Regs{Sel: c.sel}
		r.R[c.sel] = c.was
		want := Regs{Sel: c.sel}
		want.R[c.sel] = c.want
		see(t, r, c.at, c.b, want, c.brings)
	}
}

// TestFar: P15.3, by bits 11 and 12 of register 5 alone.
func TestFar(t *testing.T) {
	steps := map[int]int{0: 1, 1: 32, 2: 64, 3: 128}
	for n := -65536; n < 131072; n++ {
		if got, want := Far(with(5, n)), steps[bit(n, 11)+2*bit(n, 12)]; got != want {
			t.Fatalf("Far of %d is %d, want %d", n, got, want)
		}
	}
	for n, want := range map[int]int{
		0: 1, 0x800: 32, 0x1000: 64, 0x1800: 128, 0xe7ff: 1, 0xefff: 32, 0xf7ff: 64, 0xffff: 128, 65536: 1, 65536 + 0x800: 32,
		-1: 128, -0x800: 128, -0x1000: 64, -0x1800: 32, math.MaxInt: 128, math.MinInt: 1, math.MinInt + 0x800: 32,
	} {
		if got := Far(with(5, n)); got != want {
			t.Errorf("Far of %x is %d, want %d", n, got, want)
		}
	}
}

// TestOn: P15.3, the k-th bit of register 5, from 0 to 15, also where the register may not have it.
func TestOn(t *testing.T) {
	for _, n := range values {
		for k := range 16 {
			if got := On(with(5, n), k); got != (bit(n, k) == 1) {
				t.Errorf("On(%x, %d) is %v", n, k, got)
			}
		}
		for _, k := range []int{-1, 16, 17, 31, 32, 63, 64, -16, -64, math.MaxInt, math.MaxInt - 8, math.MinInt, math.MinInt + 7} {
			if On(with(5, n), k) {
				t.Errorf("On(%x, %d) is true", n, k)
			}
		}
	}
	for k := range 16 {
		single := 1
		for range k {
			single *= 2
		}
		for other := range 16 {
			if got := On(with(5, single), other); got != (other == k) {
				t.Errorf("On(%x, %d) is %v", single, other, got)
			}
		}
	}
}

// TestMap: P15.3, by bits 4, 5 and 6 of register 9 alone.
func TestMap(t *testing.T) {
	wides := map[int]int{0: 32, 1: 64, 2: 128, 3: 128}
	highs := map[int]int{0: 32, 1: 64}
	for n := -65536; n < 131072; n++ {
		wide, high := Map(with(9, n))
		if wide != wides[bit(n, 4)+2*bit(n, 5)] || high != highs[bit(n, 6)] {
			t.Fatalf("Map of %d is %d, %d", n, wide, high)
		}
	}
	for n, want := range map[int][2]int{
		0: {32, 32}, 0x10: {64, 32}, 0x20: {128, 32}, 0x30: {128, 32}, 0x40: {32, 64}, 0x50: {64, 64}, 0x60: {128, 64}, 0x70: {128, 64},
		0xff8f: {32, 32}, 0x80: {32, 32}, 65536: {32, 32}, 65536 + 0x50: {64, 64}, -1: {128, 64}, -0x40: {32, 64}, -0x70: {64, 32},
		math.MaxInt: {128, 64}, math.MinInt: {32, 32}, math.MinInt + 0x50: {64, 64},
	} {
		if wide, high := Map(with(9, n)); wide != want[0] || high != want[1] {
			t.Errorf("Map of %x is %d, %d, want %v", n, wide, high, want)
		}
	}
}

// TestRaster: P15.3, register 6, modulo 65536, from 64 on, and the line less 64.
func TestRaster(t *testing.T) {
	for n, line := range map[int]int{
		64: 0, 65: 1, 70: 6, 327: 263, 1023: 959, 1024: 960, 65535: 65471, 65600: 0, 65601: 1, 131071: 65471,
		-1: 65471, -2: 65470, 64 - 65536: 0, math.MaxInt: 65471, math.MinInt + 64: 0, math.MinInt + 70: 6,
	} {
		r := with(6, n)
		if !Raster(r, line) {
			t.Errorf("Raster of %d does not tell line %d", n, line)
		}
		for _, other := range append([]int{line - 1, line + 1, line + 64, line - 64, line + 1024, line + 65536, line - 65536}, values...) {
			if other != line && Raster(r, other) {
				t.Errorf("Raster of %d tells line %d", n, other)
			}
		}
	}
	for _, n := range []int{0, 1, 62, 63, 65536, 65599, 131072, -65536, -65473, math.MinInt, math.MinInt + 63} {
		r := with(6, n)
		for line := -70; line <= 70; line++ {
			if Raster(r, line) {
				t.Errorf("Raster of %d tells line %d", n, line)
			}
		}
		for _, line := range append([]int{n, n - 64, n - 65536, 65472, 65535}, values...) {
			if Raster(r, line) {
				t.Errorf("Raster of %d tells line %d", n, line)
			}
		}
	}
}

// TestOthersUnasked: P15.3, each hangs on one register alone.
func TestOthersUnasked(t *testing.T) {
	for k := range 20 {
		for _, n := range values {
			r := Fresh()
			r.Sel = n
			r.R[k] = n
			if k != 5 && (Far(r) != 1 || On(r, 7)) {
				t.Errorf("Far and On with %d in register %d", n, k)
			}
			if wide, high := Map(r); k != 9 && (wide != 32 || high != 32) {
				t.Errorf("Map with %d in register %d", n, k)
			}
			r.R[6] = 70
			if k != 6 && (!Raster(r, 6) || Raster(r, 7)) {
				t.Errorf("Raster with %d in register %d", n, k)
			}
		}
	}
}

// TestStayValid: P15.4, rows of writes of all kinds from Fresh on are Valid.
func TestStayValid(t *testing.T) {
	places := append([]int{0, 0, 2, 2, 2, 3, 3, 3}, elsewhere...)
	seed := 1
	draw := func(n int) int {
		seed = (seed*1103515245 + 12345) % (1 << 31)
		return seed / 256 % n
	}
	for range 200 {
		r := Fresh()
		for range 500 {
			at, b := places[draw(len(places))], draw(1024)-512
			if draw(8) == 0 {
				b = values[draw(len(values))]
			}
			was := r
			if r, _ = Write(r, at, b); !Valid(r) {
				t.Fatalf("Write(%v, %d, %d) is %v", was, at, b, r)
			}
		}
	}
}

// TestStayValidFull: P15.4, one write to registers that have all that they may have, or nothing, is Valid.
func TestStayValidFull(t *testing.T) {
	for sel := range 32 {
		for at := -1; at <= 4; at++ {
			for b := -1; b <= 256; b++ {
				for _, r := range []Regs{full(sel), {Sel: sel}} {
					if r, _ = Write(r, at, b); !Valid(r) {
						t.Fatalf("Write of %d at %d, Sel %d, is %v", b, at, sel, r)
					}
				}
			}
		}
	}
}

// TestWhole: P15.4, a register that is written whole is what was written, within its bits, whatever it was and whichever half came first.
func TestWhole(t *testing.T) {
	for sel := range 20 {
		for w := range 65536 {
			for _, was := range []int{0, kept(sel, 65535)} {
				r, _ := Write(Fresh(), 0, sel)
				r.R[sel] = was
				low, _ := Write(r, 2, w%256)
				low, _ = Write(low, 3, w/256)
				high, _ := Write(r, 3, w/256)
				high, _ = Write(high, 2, w%256)
				want := Regs{Sel: sel}
				want.R[sel] = kept(sel, w)
				if low != want || high != want {
					t.Fatalf("register %d behind %x is %x and %x, want %x", sel, w, low.R[sel], high.R[sel], want.R[sel])
				}
			}
		}
	}
}
