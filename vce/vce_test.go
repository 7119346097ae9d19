package vce

import (
	"math"
	"testing"
)

// values are bytes, places and colours at and beside the numbers that the chapter cuts at, with bits beside those it names, below 0, and at both ends of int.
var values = []int{
	0, 1, 2, 3, 4, 127, 128, 129, 254, 255, 256, 257, 300, 510, 511, 512, 513, 767, 768, 1023, 1024, 65535, 65536,
	-1, -2, -128, -255, -256, -257, -511, -512, -513, -1024,
	math.MaxInt, math.MaxInt - 1, math.MaxInt - 255, math.MaxInt - 256, math.MinInt, math.MinInt + 1, math.MinInt + 255, math.MinInt + 256, math.MinInt + 511,
}

// elsewhere are the places of which nothing is told, and some far off that end as those that have something.
var elsewhere = []int{
	1, 6, 7, 8, 10, 11, 12, 13, 256, 258, 259, 260, 261, 65536, 65540, 65541,
	-1, -2, -3, -4, -5, -6, -8, math.MaxInt, math.MaxInt - 3, math.MaxInt - 7, math.MinInt, math.MinInt + 2, math.MinInt + 4, math.MinInt + 5,
}

// modulo is n modulo m, from 0 on: by division, where the package takes masks.
func modulo(n, m int) int { return (n%m + m) % m }

// odd tells the lowest bit of b.
func odd(b int) int { return modulo(b, 2) }

// full has a number of its own at each place of its table, of which most are no colours: above 511, and below 0.
func full(control, addr int) Vce {
	v := Vce{Control: control, Addr: addr}
	for k := range v.Table {
		v.Table[k] = k*7919 - 1000003
	}
	return v
}

// with is a full one whose colour at Addr is c.
func with(addr, c int) Vce {
	v := full(-77, addr)
	v.Table[modulo(addr, 512)] = c
	return v
}

// see holds the whole of two against each other, and tells where they differ.
func see(t *testing.T, what string, given []int, got, want Vce) {
	t.Helper()
	if got == want {
		return
	}
	t.Errorf("%s%v: Control %d, want %d; Addr %d, want %d", what, given, got.Control, want.Control, got.Addr, want.Addr)
	for k := range want.Table {
		if got.Table[k] != want.Table[k] {
			t.Errorf("%s%v: colour %d is %d, want %d", what, given, k, got.Table[k], want.Table[k])
		}
	}
}

// TestExample: the chapter's example.
func TestExample(t *testing.T) {
	v := Write(Write(Vce{}, 4, 255), 5, 1)
	want := Vce{Addr: 1}
	want.Table[0] = 511
	see(t, "example", nil, v, want)
}

// TestWriteControl: P12.1, at 0 Control is the byte, whatever it was, and nothing else is changed.
func TestWriteControl(t *testing.T) {
	for _, control := range values {
		for _, addr := range values {
			for _, b := range values {
				v := full(control, addr)
				want := v
				want.Control = modulo(b, 256)
				see(t, "Write at 0", []int{control, addr, b}, Write(v, 0, b), want)
			}
		}
	}
	for b, want := range map[int]int{0: 0, 1: 1, 255: 255, 256: 0, 511: 255, -1: 255, -256: 0, math.MaxInt: 255, math.MinInt: 0} {
		if got := Write(Vce{Control: 7}, 0, b).Control; got != want {
			t.Errorf("Control behind %d is %d, want %d", b, got, want)
		}
	}
}

// TestWriteAddr: P12.1, at 2 the lowest eight bits of Addr, at 3 its ninth; Addr is modulo 512 before.
func TestWriteAddr(t *testing.T) {
	for _, addr := range values {
		for _, b := range values {
			v := full(-77, addr)
			want := v
			want.Addr = modulo(addr, 512)/256*256 + modulo(b, 256)
			see(t, "Write at 2", []int{addr, b}, Write(v, 2, b), want)
			want.Addr = modulo(addr, 256) + odd(b)*256
			see(t, "Write at 3", []int{addr, b}, Write(v, 3, b), want)
		}
	}
}

// TestWriteAddrTable: P12.1, places written out.
func TestWriteAddrTable(t *testing.T) {
	for _, c := range []struct{ addr, at, b, want int }{
		{0, 2, 255, 255}, {0, 2, 256, 0}, {0, 2, 511, 255}, {511, 2, 0, 256}, {511, 2, 1, 257}, {256, 2, -1, 511}, {255, 2, 0, 0},
		{0, 3, 1, 256}, {0, 3, 2, 0}, {255, 3, 255, 511}, {511, 3, 0, 255}, {511, 3, 254, 255}, {256, 3, 0, 0}, {256, 3, 256, 0}, {5, 3, -1, 261},
		{512, 2, 7, 7}, {768, 2, 7, 263}, {513, 3, 1, 257}, {512, 3, 0, 0}, {-1, 2, 0, 256}, {-512, 2, 3, 3}, {-1, 3, 0, 255}, {-2, 3, 1, 510},
		{math.MaxInt, 2, 0, 256}, {math.MaxInt, 3, 0, 255}, {math.MinInt, 2, 9, 9}, {math.MinInt, 3, 1, 256},
		{3, 2, math.MaxInt, 255}, {3, 2, math.MinInt, 0}, {3, 3, math.MaxInt, 259}, {259, 3, math.MinInt, 3},
	} {
		if got := Write(Vce{Addr: c.addr}, c.at, c.b).Addr; got != c.want {
			t.Errorf("Addr %d behind %d at %d is %d, want %d", c.addr, c.b, c.at, got, c.want)
		}
	}
}

// TestWriteColour: P12.1, at 4 the lowest eight bits of the colour at Addr, and Addr does not go on; at 5 its ninth, and Addr goes on.
func TestWriteColour(t *testing.T) {
	for _, addr := range values {
		here := modulo(addr, 512)
		for _, c := range values {
			v := with(addr, c)
			for _, b := range values {
				low := v
				low.Table[here] = modulo(c, 512)/256*256 + modulo(b, 256)
				low.Addr = here
				see(t, "Write at 4", []int{addr, c, b}, Write(v, 4, b), low)
				high := v
				high.Table[here] = modulo(c, 256) + odd(b)*256
				high.Addr = modulo(here+1, 512)
				see(t, "Write at 5", []int{addr, c, b}, Write(v, 5, b), high)
			}
		}
	}
}

// TestWriteColourTable: P12.1, colours written out.
func TestWriteColourTable(t *testing.T) {
	for _, c := range []struct{ addr, colour, at, b, place, want, next int }{
		{0, 0, 4, 255, 0, 255, 0}, {0, 256, 4, 255, 0, 511, 0}, {255, 511, 4, 0, 255, 256, 255}, {256, 255, 4, 1, 256, 1, 256}, {511, 300, 4, 511, 511, 511, 511},
		{0, 0, 5, 1, 0, 256, 1}, {0, 511, 5, 0, 0, 255, 1}, {255, 255, 5, 255, 255, 511, 256}, {256, 257, 5, 254, 256, 1, 257}, {511, 5, 5, 1, 511, 261, 0}, {511, 5, 5, 256, 511, 5, 0},
		{512, 0, 5, 1, 0, 256, 1}, {1023, 0, 5, 1, 511, 256, 0}, {-1, 0, 5, 1, 511, 256, 0}, {-2, 0, 5, 1, 510, 256, 511}, {-512, 0, 5, 1, 0, 256, 1},
		{math.MaxInt, 0, 5, 1, 511, 256, 0}, {math.MinInt, 0, 5, 1, 0, 256, 1},
		{3, 512, 4, 7, 3, 7, 3}, {3, 768, 4, 7, 3, 263, 3}, {3, 513, 5, 0, 3, 1, 4}, {3, -1, 4, 0, 3, 256, 3}, {3, -512, 4, 9, 3, 9, 3}, {3, -1, 5, 0, 3, 255, 4},
		{3, math.MaxInt, 4, 0, 3, 256, 3}, {3, math.MaxInt, 5, 0, 3, 255, 4}, {3, math.MinInt, 4, 0, 3, 0, 3}, {3, math.MinInt, 5, 1, 3, 256, 4},
		{3, 0, 4, -1, 3, 255, 3}, {3, 0, 4, 256, 3, 0, 3}, {3, 0, 4, math.MaxInt, 3, 255, 3}, {3, 9, 4, math.MinInt, 3, 0, 3}, {3, 0, 5, math.MaxInt, 3, 256, 4}, {3, 511, 5, math.MinInt, 3, 255, 4},
		{512, 0, 4, 8, 0, 8, 0}, {-1, 0, 4, 8, 511, 8, 511}, {math.MaxInt, 0, 4, 8, 511, 8, 511}, {math.MinInt, 0, 4, 8, 0, 8, 0},
	} {
		v := with(c.addr, c.colour)
		want := v
		want.Table[c.place] = c.want
		want.Addr = c.next
		see(t, "Write", []int{c.addr, c.colour, c.at, c.b}, Write(v, c.at, c.b), want)
	}
}

// TestAddrUsed: P12.1, "Addr, where it is written or used", is modulo 512: behind a write at 4 it is used, and is so; behind one at 0 or elsewhere it is neither, and stays.
func TestAddrUsed(t *testing.T) {
	for addr, want := range map[int]int{
		0: 0, 1: 1, 255: 255, 256: 256, 510: 510, 511: 511,
		512: 0, 513: 1, 1023: 511, 1024: 0, 65535: 511, -1: 511, -2: 510, -511: 1, -512: 0, -513: 511,
		math.MaxInt: 511, math.MaxInt - 511: 0, math.MinInt: 0, math.MinInt + 1: 1,
	} {
		if got := Write(Vce{Addr: addr}, 4, 7).Addr; got != want {
			t.Errorf("Addr %d behind a write at 4 is %d, want %d", addr, got, want)
		}
		for _, at := range append([]int{0}, elsewhere...) {
			if got := Write(Vce{Addr: addr}, at, 7).Addr; got != addr {
				t.Errorf("Addr %d behind a write at %d is %d", addr, at, got)
			}
		}
	}
	for addr := -1500; addr < 1500; addr++ {
		if got, want := Write(Vce{Addr: addr}, 4, 7).Addr, modulo(addr, 512); got != want {
			t.Errorf("Addr %d behind a write at 4 is %d, want %d", addr, got, want)
		}
	}
}

// TestWriteEachPlace: P12.1, each place of the table, with bytes on both sides of the lowest bit.
func TestWriteEachPlace(t *testing.T) {
	for addr := range 512 {
		v := with(addr, 0x1a5)
		for b := range 256 {
			low := v
			low.Table[addr] = 256 + b
			see(t, "Write at 4", []int{addr, b}, Write(v, 4, b), low)
		}
		for b, want := range []int{0xa5, 0x1a5} {
			high := v
			high.Table[addr] = want
			high.Addr = (addr + 1) % 512
			see(t, "Write at 5", []int{addr, b}, Write(v, 5, b), high)
		}
	}
}

// TestWriteElsewhere: P12.1, at no other place is anything changed, also not what is no byte, no place and no colour.
func TestWriteElsewhere(t *testing.T) {
	for _, at := range elsewhere {
		for _, n := range values {
			for _, b := range values {
				v := with(n, n)
				v.Control = n
				see(t, "Write elsewhere", []int{at, n, b}, Write(v, at, b), v)
			}
		}
	}
}

func seeRead(t *testing.T, v Vce, at, want int, behind Vce) {
	t.Helper()
	b, got := Read(v, at)
	if b != want {
		t.Errorf("Read of Addr %d at %d = %d, want %d", v.Addr, at, b, want)
	}
	see(t, "Read", []int{v.Addr, at}, got, behind)
}

// TestRead: P12.2, at 4 nothing is changed; at 5 just Addr is.
func TestRead(t *testing.T) {
	for _, addr := range values {
		for _, c := range values {
			for _, control := range []int{0, 128, 255, -1, math.MaxInt, math.MinInt} {
				v := with(addr, c)
				v.Control = control
				seeRead(t, v, 4, modulo(c, 256), v)
				behind := v
				behind.Addr = modulo(modulo(addr, 512)+1, 512)
				seeRead(t, v, 5, 254+modulo(c, 512)/256, behind)
			}
		}
	}
}

// TestReadTable: P12.2, written out.
func TestReadTable(t *testing.T) {
	for _, c := range []struct{ addr, colour, at, want, next int }{
		{0, 0x1a5, 4, 0xa5, 0}, {0, 0x1a5, 5, 255, 1}, {0, 0xa5, 4, 0xa5, 0}, {0, 0xa5, 5, 254, 1},
		{255, 511, 4, 255, 255}, {255, 256, 4, 0, 255}, {255, 511, 5, 255, 256}, {256, 255, 5, 254, 257}, {511, 256, 5, 255, 0}, {511, 0, 4, 0, 511},
		{512, 7, 4, 7, 512}, {512, 256, 5, 255, 1}, {-1, 7, 4, 7, -1}, {-1, 256, 5, 255, 0}, {-2, 0, 5, 254, 511},
		{math.MaxInt, 7, 4, 7, math.MaxInt}, {math.MaxInt, 0, 5, 254, 0}, {math.MinInt, 7, 4, 7, math.MinInt}, {math.MinInt, 256, 5, 255, 1},
		{3, 512, 4, 0, 3}, {3, 512, 5, 254, 4}, {3, 768, 5, 255, 4}, {3, -1, 4, 255, 3}, {3, -1, 5, 255, 4}, {3, -512, 5, 254, 4}, {3, -257, 5, 254, 4},
		{3, math.MaxInt, 4, 255, 3}, {3, math.MaxInt, 5, 255, 4}, {3, math.MinInt, 4, 0, 3}, {3, math.MinInt, 5, 254, 4},
	} {
		v := with(c.addr, c.colour)
		behind := v
		behind.Addr = c.next
		seeRead(t, v, c.at, c.want, behind)
	}
}

// TestReadEach: P12.2, each colour at each place once.
func TestReadEach(t *testing.T) {
	for addr := range 512 {
		c := addr * 37 % 512
		v := with(addr, c)
		seeRead(t, v, 4, c%256, v)
		behind := v
		behind.Addr = (addr + 1) % 512
		seeRead(t, v, 5, 254+c/256, behind)
	}
}

// TestReadElsewhere: P12.2, at all other places 255, those that may be written to too, and nothing is changed.
func TestReadElsewhere(t *testing.T) {
	for _, at := range append([]int{0, 2, 3}, elsewhere...) {
		for _, n := range values {
			v := with(n, n)
			v.Control = n
			seeRead(t, v, at, 255, v)
		}
	}
}

// TestDotAndLines: P12.3, written out.
func TestDotAndLines(t *testing.T) {
	for _, c := range []struct{ control, dot, lines int }{
		{0, 4, 262}, {1, 3, 262}, {2, 2, 262}, {3, 2, 262}, {4, 4, 263}, {5, 3, 263}, {6, 2, 263}, {7, 2, 263},
		{8, 4, 262}, {9, 3, 262}, {12, 4, 263}, {128, 4, 262}, {251, 2, 262}, {252, 4, 263}, {253, 3, 263}, {255, 2, 263}, {256, 4, 262}, {257, 3, 262}, {260, 4, 263},
		{-1, 2, 263}, {-2, 2, 263}, {-3, 3, 263}, {-4, 4, 263}, {-5, 2, 262}, {-7, 3, 262}, {-8, 4, 262}, {-256, 4, 262},
		{math.MaxInt, 2, 263}, {math.MaxInt - 2, 3, 263}, {math.MaxInt - 3, 4, 263}, {math.MaxInt - 4, 2, 262},
		{math.MinInt, 4, 262}, {math.MinInt + 1, 3, 262}, {math.MinInt + 2, 2, 262}, {math.MinInt + 4, 4, 263},
	} {
		v := full(c.control, 5)
		if got := Dot(v); got != c.dot {
			t.Errorf("Dot of %d = %d, want %d", c.control, got, c.dot)
		}
		if got := Lines(v); got != c.lines {
			t.Errorf("Lines of %d = %d, want %d", c.control, got, c.lines)
		}
	}
}

// TestDotAndLinesEach: P12.3, each byte and those beside, by the lowest three bits alone.
func TestDotAndLinesEach(t *testing.T) {
	for control := -600; control < 600; control++ {
		v := Vce{Control: control}
		if got, want := Dot(v), []int{4, 3, 2, 2}[modulo(control, 4)]; got != want {
			t.Errorf("Dot of %d = %d, want %d", control, got, want)
		}
		if got, want := Lines(v), 262+modulo(control, 8)/4; got != want {
			t.Errorf("Lines of %d = %d, want %d", control, got, want)
		}
	}
}

// shade is the grey of P12.4, part by part.
func shade(c int) int {
	g, r, b := c/64, c/8%8, c%8
	return 73 * ((4*g + 2*r + b) / 7)
}

func seeColour(t *testing.T, v Vce, k, want int) {
	t.Helper()
	if got := Colour(v, k); got != want {
		t.Errorf("Colour of Control %d at %d = %d, want %d", v.Control, k, got, want)
	}
}

// TestColourEach: P12.4, each colour with and without the highest bit of Control, whatever its other bits are.
func TestColourEach(t *testing.T) {
	var v Vce
	for k := range v.Table {
		v.Table[k] = (k*5 + 3) % 512
	}
	for k, c := range v.Table {
		for _, control := range []int{0, 1, 4, 64, 127, 256, 256 + 127, 512, -256, -129, math.MinInt, math.MaxInt - 128} {
			v.Control = control
			seeColour(t, v, k, c)
		}
		for _, control := range []int{128, 129, 192, 255, 256 + 128, 511, -1, -128, math.MaxInt, math.MinInt + 128} {
			v.Control = control
			seeColour(t, v, k, shade(c))
		}
	}
}

// TestColourTable: P12.4, written out.
func TestColourTable(t *testing.T) {
	for _, c := range []struct{ colour, plain, grey int }{
		{0, 0, 0}, {511, 511, 511}, {0x1c0, 0x1c0, 292}, {0x38, 0x38, 146}, {7, 7, 73}, {6, 6, 0}, {64, 64, 0}, {8, 8, 0}, {1, 1, 0},
		{64 + 8 + 1, 73, 73}, {64 + 8, 72, 0}, {128, 128, 73}, {24, 24, 0}, {32, 32, 73}, {510, 510, 438}, {448 + 56, 504, 438}, {448 + 7, 455, 365}, {56 + 7, 63, 219},
		{512, 0, 0}, {513, 1, 0}, {1023, 511, 511}, {512 + 73, 73, 73}, {-1, 511, 511}, {-512, 0, 0}, {-64, 448, 292}, {-505, 7, 73},
		{math.MaxInt, 511, 511}, {math.MinInt, 0, 0}, {math.MinInt + 7, 7, 73},
	} {
		v := with(9, c.colour)
		v.Control = 127
		seeColour(t, v, 9, c.plain)
		v.Control = 128
		seeColour(t, v, 9, c.grey)
	}
}

// TestColourNumber: P12.4, the number is taken modulo 512, and Addr does not matter.
func TestColourNumber(t *testing.T) {
	v := Vce{Addr: 77}
	for k := range v.Table {
		v.Table[k] = 511 - k + 512*(k%5-2)
	}
	for _, k := range values {
		seeColour(t, v, k, 511-modulo(k, 512))
	}
	for k := -1500; k < 1500; k++ {
		seeColour(t, v, k, 511-modulo(k, 512))
	}
	for k, want := range map[int]int{0: 511, 511: 0, 512: 511, -1: 0, -512: 511, math.MaxInt: 0, math.MinInt: 511} {
		seeColour(t, v, k, want)
	}
}

// put writes a colour as a program does; get reads one.
func put(v Vce, c int) Vce { return Write(Write(v, 4, c%256), 5, c/256) }

func get(v Vce) (int, Vce) {
	low, v := Read(v, 4)
	high, v := Read(v, 5)
	return low + (high-254)*256, v
}

// choose sets Addr as a program does.
func choose(v Vce, k int) Vce { return Write(Write(v, 2, k%256), 3, k/256) }

// TestWrittenIsRead: P12.5, all colours one behind the other, from each of some places on, over the end of the table and one more.
func TestWrittenIsRead(t *testing.T) {
	for _, first := range []int{0, 1, 200, 255, 256, 510, 511} {
		v := choose(Vce{Addr: 300}, first)
		for n := range 512 {
			v = put(v, n*3%512)
		}
		if v.Addr != first {
			t.Errorf("Addr is %d behind all colours, want %d", v.Addr, first)
		}
		v = choose(v, first)
		for n := range 513 {
			c, behind := get(v)
			if want := n % 512 * 3 % 512; c != want || behind.Table != v.Table {
				t.Fatalf("from %d on, colour %d is %d, want %d", first, n, c, want)
			}
			if shown := Colour(v, first+n); shown != c {
				t.Fatalf("from %d on, colour %d is shown as %d, want %d", first, n, shown, c)
			}
			v = behind
		}
	}
}

// TestWrittenOverTheEnd: P12.5, four colours over the end of the table, and the others stay.
func TestWrittenOverTheEnd(t *testing.T) {
	v := full(3, 510)
	want := v
	want.Addr = 2
	for n, k := range []int{510, 511, 0, 1} {
		v = put(v, 500+n)
		want.Table[k] = 500 + n
	}
	see(t, "over the end", nil, v, want)
	v = choose(v, 510)
	for n := range 4 {
		c, behind := get(v)
		if c != 500+n {
			t.Errorf("colour %d is %d, want %d", n, c, 500+n)
		}
		v = behind
	}
	see(t, "read again", nil, v, want)
}

// TestEightGreys: P12.5, the colours in grey are eight, in even steps, and a grey stays as it is.
func TestEightGreys(t *testing.T) {
	v := Vce{Control: 128}
	for k := range v.Table {
		v.Table[k] = k
	}
	seen := map[int]int{}
	for k := range v.Table {
		seen[Colour(v, k)]++
	}
	if len(seen) != 8 {
		t.Errorf("%d greys: %v", len(seen), seen)
	}
	for step, want := range []int{0, 73, 146, 219, 292, 365, 438, 511} {
		seeColour(t, v, step*64+step*8+step, want)
		seeColour(t, v, want, want)
		if seen[want] == 0 {
			t.Errorf("no colour is %d in grey", want)
		}
	}
}
