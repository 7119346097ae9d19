package mpr

import (
	"math"
	"testing"
)

// modulo tells n modulo m, from 0 on, by another way than the package does.
func modulo(n, m int) int { return (n%m + m) % m }

// numbers are whole numbers with the bytes that they are modulo 256, written out.
var numbers = []struct{ n, b int }{
	{0, 0}, {1, 1}, {127, 127}, {128, 128}, {248, 248}, {254, 254}, {255, 255},
	{256, 0}, {257, 1}, {511, 255}, {512, 0}, {65535, 255}, {65536, 0}, {65541, 5},
	{-1, 255}, {-2, 254}, {-128, 128}, {-255, 1}, {-256, 0}, {-257, 255}, {-65536, 0}, {-65537, 255},
	{math.MaxInt32, 255}, {math.MaxInt32 + 8, 7}, {math.MinInt32, 0}, {math.MinInt32 - 3, 253}, {1<<32 + 9, 9}, {-1<<32 - 9, 247},
	{math.MaxInt, 255}, {math.MaxInt - 1, 254}, {math.MaxInt - 255, 0},
	{math.MinInt, 0}, {math.MinInt + 1, 1}, {math.MinInt + 255, 255},
}

// told are eight bytes, each another; odd are eight numbers that are no bytes, each another byte modulo 256.
var (
	told    = File{0x11, 0xf8, 0x00, 0xff, 0x80, 0x7f, 0x01, 0xfe}
	odd     = File{-1, 256, math.MaxInt - 1, math.MinInt + 3, 1000, -1000, 1 << 40, -77}
	oddByte = File{255, 0, 254, 3, 232, 24, 0, 179}
)

// TestFresh: P5.1.
func TestFresh(t *testing.T) {
	f := Fresh()
	for k, want := range []int{0, 248, 0, 0, 0, 0, 0, 0} {
		if f[k] != want {
			t.Errorf("register %d of Fresh = %d, want %d", k, f[k], want)
		}
	}
	if !Valid(f) {
		t.Error("Fresh is not Valid")
	}
}

// TestFreshIsNew: P5.1, whatever was done with a file that Fresh told before.
func TestFreshIsNew(t *testing.T) {
	f := Fresh()
	for k := range f {
		f[k] = 7
	}
	Tam(Fresh(), 255, 9)
	if got, want := Fresh(), (File{0, 248, 0, 0, 0, 0, 0, 0}); got != want {
		t.Errorf("Fresh = %v, want %v", got, want)
	}
}

// isByte asks by bounds, where the package does not.
func isByte(n int) bool { return 0 <= n && n <= 255 }

// TestValidOne: P5.1, of files of which one register is the number, the others being bytes.
func TestValidOne(t *testing.T) {
	for _, others := range []File{{}, Fresh(), told, {255, 255, 255, 255, 255, 255, 255, 255}} {
		for k := range others {
			for _, x := range numbers {
				f := others
				f[k] = x.n
				if got, want := Valid(f), isByte(x.n); got != want {
					t.Errorf("Valid(%v) = %v, want %v", f, got, want)
				}
			}
			for n := -600; n <= 1100; n++ {
				f := others
				f[k] = n
				if got, want := Valid(f), isByte(n); got != want {
					t.Errorf("Valid(%v) = %v, want %v", f, got, want)
				}
			}
		}
	}
}

// TestValidTable: P5.1, written out.
func TestValidTable(t *testing.T) {
	for n, want := range map[int]bool{-1: false, 0: true, 255: true, 256: false, math.MinInt: false, math.MaxInt: false} {
		for k := range 8 {
			f := File{}
			f[k] = n
			if got := Valid(f); got != want {
				t.Errorf("Valid(%v) = %v, want %v", f, got, want)
			}
		}
	}
}

// TestValidMany: P5.1, of files with more than one register that is no byte, such that their sums are those of bytes too.
func TestValidMany(t *testing.T) {
	for i := range 8 {
		for j := range 8 {
			if i == j {
				continue
			}
			for _, pair := range [][2]int{{-1, 1}, {256, -256}, {-1, 256}, {-1, -1}, {256, 256}, {math.MinInt, math.MinInt}, {math.MinInt, math.MaxInt}} {
				f := File{}
				f[i], f[j] = pair[0], pair[1]
				if Valid(f) {
					t.Errorf("Valid(%v) = true, want false", f)
				}
			}
		}
	}
	if Valid(odd) || !Valid(oddByte) || !Valid(told) || !Valid(File{}) {
		t.Error("Valid of a file of odd numbers, or not of one of bytes")
	}
}

// TestPhysTable: P5.2 and the chapter's example, written out.
func TestPhysTable(t *testing.T) {
	for _, x := range []struct {
		f        File
		at, want int
	}{
		{Fresh(), 0x2005, 0x1f0005}, {Fresh(), 0x2000, 0x1f0000}, {Fresh(), 0x3fff, 0x1f1fff},
		{Fresh(), 0, 0}, {Fresh(), 0x1fff, 0x1fff}, {Fresh(), 0x4000, 0}, {Fresh(), 0xe000, 0}, {Fresh(), 0xffff, 0x1fff},
		{Fresh(), -1, 0x1fff}, {Fresh(), 65536, 0}, {Fresh(), 65536 + 0x2005, 0x1f0005}, {Fresh(), 0x2005 - 65536, 0x1f0005},
		{told, 0, 0x22000}, {told, 0x1fff, 0x23fff},
		{told, 0x2000, 0x1f0000}, {told, 0x3fff, 0x1f1fff},
		{told, 0x4000, 0}, {told, 0x5fff, 0x1fff},
		{told, 0x6000, 0x1fe000}, {told, 0x7fff, 0x1fffff},
		{told, 0x8000, 0x100000}, {told, 0x9fff, 0x101fff},
		{told, 0xa000, 0xfe000}, {told, 0xbfff, 0xfffff},
		{told, 0xc000, 0x2000}, {told, 0xdfff, 0x3fff},
		{told, 0xe000, 0x1fc000}, {told, 0xffff, 0x1fdfff},
		{told, -1, 0x1fdfff}, {told, -8192, 0x1fc000}, {told, -8193, 0x3fff}, {told, -65536, 0x22000}, {told, -65537, 0x1fdfff},
		{told, 65536, 0x22000}, {told, 65535, 0x1fdfff},
		{told, math.MaxInt, 0x1fdfff}, {told, math.MaxInt - 65535, 0x22000}, {told, math.MinInt, 0x22000}, {told, math.MinInt + 0x2001, 0x1f0001},
		{odd, 0, 0x1fe000}, {odd, 0x2000, 0}, {odd, 0x4000, 0x1fc000}, {odd, 0x6000, 0x6000},
		{odd, 0x8000, 0x1d0000}, {odd, 0xa000, 0x30000}, {odd, 0xc000, 0}, {odd, 0xe000, 0x166000},
		{odd, -1, 0x167fff}, {odd, math.MinInt, 0x1fe000}, {odd, math.MaxInt, 0x167fff},
	} {
		if got := Phys(x.f, x.at); got != x.want {
			t.Errorf("Phys(%v, %#x) = %#x, want %#x", x.f, x.at, got, x.want)
		}
	}
}

// TestPhysAll: P5.2, place by place, below 0 and beyond a word too.
func TestPhysAll(t *testing.T) {
	for _, x := range []struct{ f, bytes File }{{told, told}, {odd, oddByte}, {Fresh(), Fresh()}} {
		for at := -140000; at <= 140000; at++ {
			a := modulo(at, 65536)
			want := x.bytes[a/8192]*8192 + a%8192
			if got := Phys(x.f, at); got != want {
				t.Fatalf("Phys(%v, %d) = %d, want %d", x.f, at, got, want)
			}
		}
	}
}

// TestPhysRegisters: P5.2, of each number in each register, at both ends of its eighth.
func TestPhysRegisters(t *testing.T) {
	for k := range 8 {
		for _, x := range numbers {
			f := told
			f[k] = x.n
			for _, in := range []int{0, 1, 4095, 4096, 8190, 8191} {
				for _, round := range []int{0, 65536, -65536, 1 << 40, -1 << 40, math.MinInt} {
					at, want := round+k*8192+in, x.b*8192+in
					if got := Phys(f, at); got != want {
						t.Errorf("Phys(%v, %d) = %d, want %d", f, at, got, want)
					}
				}
			}
		}
	}
}

// TestPhysEnds: P5.2, of places at both ends of int.
func TestPhysEnds(t *testing.T) {
	for i := range 65536 {
		want := told[i/8192]*8192 + i%8192
		if got := Phys(told, math.MinInt+i); got != want {
			t.Fatalf("Phys(told, MinInt + %d) = %d, want %d", i, got, want)
		}
		if got := Phys(told, math.MaxInt-65535+i); got != want {
			t.Fatalf("Phys(told, MaxInt - 65535 + %d) = %d, want %d", i, got, want)
		}
	}
}

// masks are masks that are no bytes with the bytes that they are modulo 256.
func masks() map[int]int {
	all := map[int]int{
		math.MinInt: 0, math.MaxInt: 255, math.MinInt + 1: 1, math.MinInt + 128: 128, math.MinInt + 6: 6, math.MaxInt - 1: 254, math.MaxInt - 127: 128, math.MaxInt - 255: 0,
		-1: 255, -2: 254, -128: 128, -129: 127, -256: 0, -255: 1, -65536: 0, -65535: 1,
		256: 0, 257: 1, 512: 0, 0x8000: 0, 0x8100: 0, 0xff00: 0, 65535: 255, 65536: 0, 1<<32 + 128: 128, 1 << 32: 0, -1 << 32: 0,
	}
	for mask := range 256 {
		for _, round := range []int{256, -256, 1 << 20, -1 << 20, 1 << 40, -1 << 40, math.MinInt} {
			all[mask+round] = mask
		}
		all[mask] = mask
	}
	return all
}

// has asks a bit of a byte, by halving, where the package does not.
func has(mask, k int) bool {
	for range k {
		mask /= 2
	}
	return mask%2 == 1
}

// TestTamTable: P5.3, written out.
func TestTamTable(t *testing.T) {
	for _, x := range []struct {
		f       File
		mask, b int
		want    File
	}{
		{Fresh(), 0x81, 0xff, File{0xff, 0xf8, 0, 0, 0, 0, 0, 0xff}},
		{Fresh(), 0, 5, Fresh()}, {Fresh(), 256, 5, Fresh()}, {Fresh(), math.MinInt, 5, Fresh()},
		{Fresh(), 1, 5, File{5, 0xf8}}, {Fresh(), 2, 5, File{0, 5}}, {Fresh(), 0x80, 5, File{0, 0xf8, 0, 0, 0, 0, 0, 5}},
		{Fresh(), 255, 256, File{}}, {Fresh(), -1, -1, File{255, 255, 255, 255, 255, 255, 255, 255}},
		{Fresh(), math.MaxInt, math.MinInt, File{}}, {File{}, math.MaxInt, math.MaxInt, File{255, 255, 255, 255, 255, 255, 255, 255}},
		{File{}, 0x18, 1000, File{3: 232, 4: 232}}, {File{}, -256 + 0x24, -1000, File{2: 24, 5: 24}},
		{odd, 0, 5, odd}, {odd, 256, 5, odd}, {odd, 0x0f, 5, File{5, 5, 5, 5, odd[4], odd[5], odd[6], odd[7]}},
		{odd, 0xf0, 5, File{odd[0], odd[1], odd[2], odd[3], 5, 5, 5, 5}},
	} {
		if got := Tam(x.f, x.mask, x.b); got != x.want {
			t.Errorf("Tam(%v, %#x, %d) = %v, want %v", x.f, x.mask, x.b, got, x.want)
		}
	}
}

// TestTamAll: P5.3, of each mask, with each number as b; registers that are no bytes stay as they are.
func TestTamAll(t *testing.T) {
	for _, f := range []File{told, odd} {
		for mask, byteMask := range masks() {
			for _, x := range numbers {
				got := Tam(f, mask, x.n)
				for k := range 8 {
					want := f[k]
					if has(byteMask, k) {
						want = x.b
					}
					if got[k] != want {
						t.Errorf("register %d of Tam(%v, %d, %d) = %d, want %d", k, f, mask, x.n, got[k], want)
					}
				}
			}
		}
	}
}

// TestTamBytes: P5.3, of each byte in each register.
func TestTamBytes(t *testing.T) {
	for k := range 8 {
		for b := -300; b <= 600; b++ {
			want := told
			want[k] = modulo(b, 256)
			if got := Tam(told, 1<<k, b); got != want {
				t.Errorf("Tam(told, %d, %d) = %v, want %v", 1<<k, b, got, want)
			}
		}
	}
}

// TestTmaTable: P5.3, written out.
func TestTmaTable(t *testing.T) {
	for _, x := range []struct {
		f                File
		mask, last, want int
	}{
		{Fresh(), 0x82, 0, 0xf8}, {Fresh(), 2, 7, 0xf8}, {Fresh(), 3, 7, 0}, {Fresh(), 0xfe, 7, 0xf8}, {Fresh(), 0xfc, 7, 0},
		{Fresh(), 0, 5, 5}, {Fresh(), 0, 256, 0}, {Fresh(), 0, 261, 5}, {Fresh(), 0, -1, 255}, {Fresh(), 0, math.MaxInt, 255}, {Fresh(), 0, math.MinInt, 0},
		{Fresh(), 256, 5, 5}, {Fresh(), 0x8000, 5, 5}, {Fresh(), -256, 5, 5}, {Fresh(), math.MinInt, 5, 5}, {Fresh(), math.MinInt + 2, 5, 0xf8},
		{Fresh(), 258, 5, 0xf8}, {Fresh(), -2, 5, 0xf8}, {told, math.MaxInt, 5, 0x11}, {told, -1, 5, 0x11}, {told, -128, 5, 0xfe},
		{told, 1, 5, 0x11}, {told, 2, 5, 0xf8}, {told, 4, 5, 0x00}, {told, 8, 5, 0xff}, {told, 16, 5, 0x80}, {told, 32, 5, 0x7f}, {told, 64, 5, 0x01}, {told, 128, 5, 0xfe},
		{odd, 1, 5, 255}, {odd, 2, 5, 0}, {odd, 4, 5, 254}, {odd, 8, 5, 3}, {odd, 16, 5, 232}, {odd, 32, 5, 24}, {odd, 64, 5, 0}, {odd, 128, 5, 179},
	} {
		if got := Tma(x.f, x.mask, x.last); got != x.want {
			t.Errorf("Tma(%v, %#x, %d) = %d, want %d", x.f, x.mask, x.last, got, x.want)
		}
	}
}

// lowest tells the lowest bit of a byte that is set; 8 of 0.
func lowest(mask int) int {
	for k := range 8 {
		if has(mask, k) {
			return k
		}
	}
	return 8
}

// TestTmaAll: P5.3, of each mask, with each number as last.
func TestTmaAll(t *testing.T) {
	for _, f := range []struct{ is, bytes File }{{told, told}, {odd, oddByte}} {
		for mask, byteMask := range masks() {
			for _, x := range numbers {
				want := x.b
				if k := lowest(byteMask); k < 8 {
					want = f.bytes[k]
				}
				if got := Tma(f.is, mask, x.n); got != want {
					t.Errorf("Tma(%v, %d, %d) = %d, want %d", f.is, mask, x.n, got, want)
				}
			}
		}
	}
}

// TestTmaRegisters: P5.3, of each number in each register.
func TestTmaRegisters(t *testing.T) {
	for k := range 8 {
		for _, x := range numbers {
			f := told
			f[k] = x.n
			for _, mask := range []int{1 << k, 256 - 1<<k, 1<<k - 256, 1<<k + 1<<40, math.MaxInt - 1<<k + 1} {
				if got := Tma(f, mask, x.b+1); got != x.b {
					t.Errorf("Tma(%v, %d, %d) = %d, want %d", f, mask, x.b+1, got, x.b)
				}
			}
		}
	}
}

// TestSideBySide: P5.4, of each place of each eighth.
func TestSideBySide(t *testing.T) {
	for _, f := range []File{Fresh(), told, odd} {
		for k := range 8 {
			first := Phys(f, k*8192)
			if first%8192 != 0 || first < 0 || first >= 1<<21 {
				t.Errorf("Phys(%v, %d) = %d, that is no page's first place", f, k*8192, first)
			}
			for in := range 8192 {
				if got := Phys(f, k*8192+in); got != first+in {
					t.Fatalf("Phys(%v, %d) = %d, want %d", f, k*8192+in, got, first+in)
				}
			}
		}
	}
}

// TestTmaOfTam: P5.4, of each bit, with each number put.
func TestTmaOfTam(t *testing.T) {
	for _, f := range []File{Fresh(), told, odd} {
		for k := range 8 {
			for _, x := range numbers {
				if got := Tma(Tam(f, 1<<k, x.n), 1<<k, x.b+1); got != x.b {
					t.Errorf("Tma of bit %d = %d behind Tam of %d, want %d", k, got, x.n, x.b)
				}
			}
			for b := range 256 {
				if got := Tma(Tam(f, 1<<k, b), 1<<k, b+1); got != b {
					t.Errorf("Tma of bit %d = %d behind Tam of %d", k, got, b)
				}
			}
		}
	}
}

// TestTamToPhys: P5.2 and P5.3, where what Tam puts is the page that Phys tells.
func TestTamToPhys(t *testing.T) {
	for k := range 8 {
		f := Tam(Fresh(), 1<<k, 0x123)
		if got, want := Phys(f, k*8192+5), 0x46005; got != want {
			t.Errorf("Phys = %#x behind Tam of bit %d, want %#x", got, k, want)
		}
	}
}

// TestGivenStays: P5.2 and P5.3 leave the file that is given as it was.
func TestGivenStays(t *testing.T) {
	f := odd
	Tam(f, 255, 1)
	Tma(f, 255, 1)
	Phys(f, 0)
	Valid(f)
	if f != odd {
		t.Errorf("the file given is now %v", f)
	}
}
