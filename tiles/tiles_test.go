package tiles

import (
	"math"
	"slices"
	"testing"

	"phosphor/vram"
)

const (
	size = 32768
	all  = 65536
)

// sides are the cells that a map has, wide and high.
type sides struct{ wide, high int }

var maps = []sides{{32, 32}, {64, 32}, {128, 32}, {32, 64}, {64, 64}, {128, 64}}

// noWide and noHigh are numbers of cells that no map has: beside those that there are, the other way's, others that are powers of 2, the right ones and a multiple of 65536, 0, below 0, and both ends of int.
var (
	noWide = []int{31, 33, 63, 65, 127, 129, 16, 96, 256, 1, 0, -1, -31, -32, -33, -64, -128, all, all + 32, all + 64, all + 128, 32 - all, 1<<32 + 32, math.MaxInt, math.MaxInt - 31, math.MinInt, math.MinInt + 32, math.MinInt + 128}
	noHigh = []int{31, 33, 63, 65, 127, 128, 129, 16, 96, 256, 1, 0, -1, -31, -32, -33, -64, all, all + 32, all + 64, 64 - all, 1<<32 + 64, math.MaxInt, math.MaxInt - 31, math.MinInt, math.MinInt + 32, math.MinInt + 64}
)

// places are X, Y, x and y: at a cell's sides, at each map's and beside them, at a word's end and beyond it, below 0, and at both ends of int.
var places = []int{
	0, 1, 7, 8, 9, 15, 255, 256, 257, 511, 512, 1023, 1024, 1025, 32767, 32768, 65535, 65536, 65537, 65792, 1<<32 + 5,
	-1, -7, -8, -9, -256, -257, -65535, -65536, -65537,
	math.MaxInt, math.MaxInt - 1, math.MaxInt - 7, math.MaxInt - 65535, math.MinInt, math.MinInt + 1, math.MinInt + 8, math.MinInt + 1023,
}

// modulo is n modulo m, from 0 on: by division, where the package takes masks.
func modulo(n, m int) int { return (n%m + m) % m }

// sample has words without a pattern, none of them 0; of its cells about one in two leads beyond the end of the memory.
func sample() []int {
	words := make([]int, size)
	seed := uint32(4711)
	for k := range words {
		seed = seed*1664525 + 1013904223
		words[k] = 1 + int(seed>>8)%65535
	}
	return words
}

// ports are such that a read by them, in place of Word, would change them.
var ports = [5]int{100, 200, 32, 55, 6666}

func loaded(t *testing.T, words []int) *vram.Vram {
	t.Helper()
	v, ok := vram.Load(words, ports)
	if !ok {
		t.Fatal("the words are none")
	}
	return v
}

// unchanged sees that a memory is as it was loaded.
func unchanged(t *testing.T, v *vram.Vram, words []int) {
	t.Helper()
	write, read, step, low, buffer := v.Ports()
	if [5]int{write, read, step, low, buffer} != ports || !slices.Equal(v.Words(0, size), words) {
		t.Error("the memory is changed")
	}
}

// want is the pixel that must be, by the chapter's words, of views that are maps.
func want(words []int, w View, x, y int) int {
	p := (modulo(w.X, all) + modulo(x, all)) % (8 * w.Wide)
	q := (modulo(w.Y, all) + modulo(y, all)) % (8 * w.High)
	word := func(at int) int {
		if at >= size {
			return 0
		}
		return words[at]
	}
	cell := word(q/8*w.Wide + p/8)
	a := word(cell%4096*16 + q%8)
	b := word(cell%4096*16 + q%8 + 8)
	low := 1
	for range 7 - p%8 {
		low *= 2
	}
	colour := a/low%2 + a/(256*low)%2*2 + b/low%2*4 + b/(256*low)%2*8
	if colour == 0 {
		return 0
	}
	return cell/4096*16 + colour
}

// TestExample: the chapter's example.
func TestExample(t *testing.T) {
	v := vram.New()
	v.Poke(0, 0x3001)
	v.Poke(16, 0x8080)
	for _, m := range maps {
		w := View{Wide: m.wide, High: m.high}
		if got := Pixel(v, w, 0, 0); got != 51 {
			t.Errorf("Pixel of %v: %d", w, got)
		}
		if got := Line(v, w, 0, 9); !slices.Equal(got, []int{51, 0, 0, 0, 0, 0, 0, 0, 0}) {
			t.Errorf("Line of %v: %v", w, got)
		}
	}
}

// TestPixelWrittenOut: P17.1, one cell's one row on a map, written out: which cell it is, by the map's sides and by how far the view is moved.
func TestPixelWrittenOut(t *testing.T) {
	for _, c := range []struct {
		w          View
		x, y       int
		cell, line int // where the cell's word stands, and which of its rows it is
		k          int // which of the row's pixels
	}{
		{View{32, 32, 0, 0}, 0, 0, 0, 0, 0},
		{View{32, 32, 0, 0}, 7, 7, 0, 7, 7},
		{View{32, 32, 0, 0}, 8, 0, 1, 0, 0},
		{View{32, 32, 0, 0}, 0, 8, 32, 0, 0},
		{View{64, 32, 0, 0}, 0, 8, 64, 0, 0},
		{View{128, 32, 0, 0}, 0, 8, 128, 0, 0},
		{View{32, 32, 0, 0}, 255, 255, 1023, 7, 7},
		{View{32, 32, 0, 0}, 256, 256, 0, 0, 0},
		{View{64, 32, 0, 0}, 511, 255, 2047, 7, 7},
		{View{64, 32, 0, 0}, 512, 255, 1984, 7, 0},
		{View{128, 32, 0, 0}, 1023, 255, 4095, 7, 7},
		{View{128, 32, 0, 0}, 1024, 256, 0, 0, 0},
		{View{32, 64, 0, 0}, 255, 511, 2047, 7, 7},
		{View{32, 64, 0, 0}, 0, 256, 1024, 0, 0},
		{View{64, 64, 0, 0}, 511, 511, 4095, 7, 7},
		{View{128, 64, 0, 0}, 1023, 511, 8191, 7, 7},
		{View{128, 64, 0, 0}, 1024, 512, 0, 0, 0},
		{View{32, 32, 250, 0}, 6, 0, 0, 0, 0},
		{View{32, 32, 250, 3}, 5, 254, 31, 1, 7},
		{View{128, 64, 1023, 511}, 1, 1, 0, 0, 0},
		{View{128, 64, 65535, 65535}, 65535, 65535, 8191, 6, 6},
		{View{128, 64, 65536, 65536}, 65536, 65536, 0, 0, 0},
		{View{32, 32, -1, 0}, 0, -1, 1023, 7, 7},
		{View{32, 32, math.MaxInt, math.MaxInt}, math.MaxInt, math.MaxInt, 1023, 6, 6},
		{View{32, 32, math.MinInt, math.MinInt}, math.MinInt, math.MinInt, 0, 0, 0},
		{View{64, 64, math.MaxInt, math.MinInt}, 1, -1, 4032, 7, 0},
	} {
		v := vram.New()
		v.Poke(c.cell, 0xa600)                // its pixels lie at 0x6000
		v.Poke(0x6000+c.line, 0x80>>c.k)      // colour 1
		v.Poke(0x6000+c.line+8, 0x8000>>c.k)  // and 8
		v.Poke(0x6000+(c.line+1)%8+8, 0x00ff) // another row has another colour
		if got := Pixel(v, c.w, c.x, c.y); got != 0xa9 {
			t.Errorf("Pixel of %v at %d, %d: %#x", c.w, c.x, c.y, got)
		}
	}
}

// TestPixelPlaces: P17.1, all places as X and x, and as Y and y, of all maps.
func TestPixelPlaces(t *testing.T) {
	words := sample()
	v := loaded(t, words)
	for _, m := range maps {
		for _, first := range places {
			for _, second := range places {
				for _, other := range places {
					across, down := View{m.wide, m.high, first, other}, View{m.wide, m.high, other, first}
					if got, must := Pixel(v, across, second, 3), want(words, across, second, 3); got != must {
						t.Fatalf("Pixel of %v at %d, 3: %d, want %d", across, second, got, must)
					}
					if got, must := Pixel(v, down, 3, second), want(words, down, 3, second); got != must {
						t.Fatalf("Pixel of %v at 3, %d: %d, want %d", down, second, got, must)
					}
				}
			}
		}
	}
	unchanged(t, v, words)
}

// TestPixelWholeMap: P17.1, each pixel of each map.
func TestPixelWholeMap(t *testing.T) {
	words := sample()
	v := loaded(t, words)
	for _, m := range maps {
		w := View{Wide: m.wide, High: m.high}
		for y := range 8 * m.high {
			for x := range 8 * m.wide {
				if got, must := Pixel(v, w, x, y), want(words, w, x, y); got != must {
					t.Fatalf("Pixel of %v at %d, %d: %d, want %d", w, x, y, got, must)
				}
			}
		}
	}
}

// TestPixelNoMap: P17.1, 0 of a map that is none, by one of its sides or by both.
func TestPixelNoMap(t *testing.T) {
	v := loaded(t, slices.Repeat([]int{0xf7ff}, size))
	if got := Pixel(v, View{Wide: 32, High: 32}, 0, 0); got != 255 {
		t.Fatalf("of a map that is one: %d", got)
	}
	see := func(w View) {
		t.Helper()
		for _, x := range places {
			w.X, w.Y = x, -1-x
			if got := Pixel(v, w, 5, x); got != 0 {
				t.Fatalf("Pixel of %v at 5, %d: %d", w, x, got)
			}
		}
	}
	for _, wide := range noWide {
		for _, high := range append([]int{32, 64}, noHigh...) {
			see(View{Wide: wide, High: high})
		}
	}
	for _, high := range noHigh {
		for _, wide := range []int{32, 64, 128} {
			see(View{Wide: wide, High: high})
		}
	}
}

// TestPixelBits: P17.1, each bit of the two words is one of four parts of the colour of one of eight pixels, and each of the eight rows has two words of its own.
func TestPixelBits(t *testing.T) {
	w := View{Wide: 64, High: 32}
	for line := range 8 {
		for bit := range 32 {
			v := vram.New()
			v.Poke(0, 0x5123)
			v.Poke(0x1230+line+bit/16*8, 1<<(bit%16))
			lit, part := 7-bit%8, 1<<(bit/8)
			for y := range 8 {
				for x := range 8 {
					must := 0
					if y == line && x == lit {
						must = 0x50 + part
					}
					if got := Pixel(v, w, x, y); got != must {
						t.Errorf("bit %d of row %d: Pixel at %d, %d: %d, want %d", bit, line, x, y, got, must)
					}
				}
			}
		}
	}
}

// TestPixelColours: P17.1, each palette with each colour; 0 is 0 in each of them.
func TestPixelColours(t *testing.T) {
	v := vram.New()
	for colour := range 16 {
		v.Poke(0x2000, (colour&1)*0x10|(colour>>1&1)*0x1000)
		v.Poke(0x2008, (colour>>2&1)*0x10|(colour>>3&1)*0x1000)
		for palette := range 16 {
			v.Poke(0, palette<<12|0x200)
			must := 16*palette + colour
			if colour == 0 {
				must = 0
			}
			if got := Pixel(v, View{Wide: 32, High: 32}, 3, 0); got != must {
				t.Errorf("palette %d, colour %d: %d", palette, colour, got)
			}
		}
	}
}

// TestPixelBeyond: P17.1, each number that a cell's lowest twelve bits can have: from 2048 on there are no words, and all is 0, whatever the palette.
func TestPixelBeyond(t *testing.T) {
	words := slices.Repeat([]int{0xffff}, size)
	v := loaded(t, words)
	w := View{Wide: 32, High: 32}
	for lie := range 4096 {
		for _, palette := range []int{0, 1, 9, 15} {
			v.Poke(0, palette<<12|lie)
			must := 16*palette + 15
			if lie >= 2048 {
				must = 0
			}
			for _, y := range []int{1, 7} { // the row 0 of the cell 0 is the cell's own word
				if got := Pixel(v, w, 6, y); got != must {
					t.Fatalf("cell %#x at row %d: %d, want %d", palette<<12|lie, y, got, must)
				}
			}
		}
	}
	v = loaded(t, make([]int, size))
	v.Poke(0, 0xf7ff)
	v.Poke(32767, 0x0101)
	if got := Pixel(v, w, 7, 7); got != 0xfc {
		t.Errorf("by the memory's last word: %#x", got)
	}
}

// TestNone: P17.1 and rule 1, of nil and of one that no call made there is 0, and no line.
func TestNone(t *testing.T) {
	for _, m := range append([]sides{{0, 0}, {33, 32}}, maps...) {
		for _, at := range places {
			plain := vram.Vram{}
			w := View{m.wide, m.high, at, 7}
			if Pixel(nil, w, 1, at) != 0 || Pixel(&plain, w, 1, at) != 0 {
				t.Fatalf("Pixel of none, %v at 1, %d", w, at)
			}
			for _, width := range []int{-1, 0, 1, 8, 512, 513, math.MaxInt, math.MinInt} {
				if len(Line(nil, w, at, width)) != 0 || len(Line(&plain, w, at, width)) != 0 {
					t.Fatalf("Line of none, %v at %d, %d wide", w, at, width)
				}
			}
			if plain != (vram.Vram{}) {
				t.Fatal("a plain one is changed")
			}
		}
	}
}

// seeLine holds a line against Pixel, and against what must be.
func seeLine(t *testing.T, v *vram.Vram, words []int, w View, y, width int) {
	t.Helper()
	got := Line(v, w, y, width)
	if len(got) != width {
		t.Fatalf("Line of %v at %d: %d pixels, want %d", w, y, len(got), width)
	}
	for x, pixel := range got {
		if must := want(words, w, x, y); pixel != must || Pixel(v, w, x, y) != must {
			t.Fatalf("Line of %v at %d, %d wide: pixel %d is %d, by Pixel %d, want %d", w, y, width, x, pixel, Pixel(v, w, x, y), must)
		}
	}
}

// TestLinePlaces: P17.2, lines with all places as X, and as Y and y, of all maps.
func TestLinePlaces(t *testing.T) {
	words := sample()
	v := loaded(t, words)
	for _, m := range maps {
		for _, at := range places {
			for _, y := range places {
				seeLine(t, v, words, View{m.wide, m.high, at, 5}, y, 40)
				seeLine(t, v, words, View{m.wide, m.high, 5, at}, y, 40)
			}
			seeLine(t, v, words, View{m.wide, m.high, at, at}, at, 512)
		}
	}
	unchanged(t, v, words)
}

// TestLineWidths: P17.2, each width, with the first cell cut at each of its pixels, and over the map's side at each of the line's.
func TestLineWidths(t *testing.T) {
	words := sample()
	v := loaded(t, words)
	for _, m := range maps {
		for cut := range 8 {
			for _, width := range []int{1, 2, 7, 8, 9, 15, 16, 17, 255, 256, 257, 511, 512} {
				seeLine(t, v, words, View{m.wide, m.high, cut, 0}, 100, width)
				seeLine(t, v, words, View{m.wide, m.high, 8*m.wide - 8 + cut, 0}, 8*m.high-1, width)
			}
		}
		for width := 1; width <= 512; width++ {
			seeLine(t, v, words, View{m.wide, m.high, 13, 8*m.high - 2}, width, width)
		}
		for short := 1; short <= 33; short++ {
			seeLine(t, v, words, View{m.wide, m.high, 8*m.wide - short, 9}, short, 33)
		}
	}
}

// TestLineWrittenOut: P17.2, few pixels, written out: cut in front and behind, and over the map's side.
func TestLineWrittenOut(t *testing.T) {
	v := vram.New()
	v.Poke(0, 0x1100)  // the map's first cell
	v.Poke(31, 0x2100) // its last one of that row
	v.Poke(0x1000, 0x0f55)
	v.Poke(0x1008, 0x00ff)
	// So the row's colours are 4, 5, 4, 5, 6, 7, 6, 7.
	for _, c := range []struct {
		x, y, width int
		want        []int
	}{
		{0, 0, 1, []int{20}},
		{0, 0, 8, []int{20, 21, 20, 21, 22, 23, 22, 23}},
		{0, 0, 10, []int{20, 21, 20, 21, 22, 23, 22, 23, 0, 0}},
		{5, 0, 2, []int{23, 22}},
		{7, 0, 3, []int{23, 0, 0}},
		{255, 0, 3, []int{39, 20, 21}},
		{252, 256, 6, []int{38, 39, 38, 39, 20, 21}},
		{-1, -256, 2, []int{39, 20}},
		{math.MaxInt, math.MinInt, 2, []int{39, 20}},
		{65535, 65536, 2, []int{39, 20}},
		{0, 1, 3, []int{0, 0, 0}},
	} {
		if got := Line(v, View{32, 32, c.x, 0}, c.y, c.width); !slices.Equal(got, c.want) {
			t.Errorf("Line from %d, at %d: %v, want %v", c.x, c.y, got, c.want)
		}
	}
}

// TestLineNoWidth: P17.2, nothing, where the width is not from 1 to 512, of maps and of views that are none.
func TestLineNoWidth(t *testing.T) {
	v := loaded(t, sample())
	for _, m := range append([]sides{{0, 0}, {31, 32}, {32, 128}}, maps...) {
		for _, width := range []int{0, -1, -2, -511, -512, -513, 513, 514, 1024, all, all + 1, all + 512, 1<<32 + 8, 8 - all, math.MaxInt, math.MaxInt - 1, math.MinInt, math.MinInt + 1, math.MinInt + 512} {
			if got := Line(v, View{Wide: m.wide, High: m.high}, 0, width); len(got) != 0 {
				t.Errorf("Line of %v, %d wide: %d pixels", m, width, len(got))
			}
		}
	}
}

// TestLineNoMap: P17.2, as many 0 of a view that is none, as Pixel tells.
func TestLineNoMap(t *testing.T) {
	v := loaded(t, slices.Repeat([]int{0xf7ff}, size))
	see := func(w View) {
		t.Helper()
		for _, width := range []int{1, 2, 9, 511, 512} {
			if got := Line(v, w, 3, width); !slices.Equal(got, make([]int, width)) {
				t.Fatalf("Line of %v, %d wide: %v", w, width, got)
			}
		}
	}
	for _, wide := range noWide {
		for _, high := range append([]int{32, 64}, noHigh...) {
			see(View{wide, high, 3, math.MinInt})
		}
	}
	for _, high := range noHigh {
		for _, wide := range []int{32, 64, 128} {
			see(View{wide, high, math.MaxInt, 5})
		}
	}
}

// TestLineKeepsNothing: P17.2 and rule 4, a line is new memory, its spare room too, and no later call or word changes it.
func TestLineKeepsNothing(t *testing.T) {
	words := sample()
	v := loaded(t, words)
	for _, w := range []View{{32, 32, 5, 7}, {128, 64, 1020, 3}, {33, 32, 0, 0}} {
		for _, width := range []int{1, 9, 512} {
			told := Line(v, w, 3, width)
			before := slices.Clone(told)
			other := Line(v, w, 3, width)
			other = other[:cap(other)]
			for k := range other {
				other[k] = -9
			}
			if !slices.Equal(told, before) || !slices.Equal(Line(v, w, 3, width), before) {
				t.Errorf("Line of %v, %d wide: what was told is kept", w, width)
			}
			Line(v, w, 4, 512)
			if !slices.Equal(told, before) {
				t.Errorf("Line of %v, %d wide: a later line changed it", w, width)
			}
		}
	}
	unchanged(t, v, words)
	w := View{32, 32, 5, 7}
	told := Line(v, w, 3, 512)
	before := slices.Clone(told)
	for k := range size {
		words[k] = 65535 - words[k]
		v.Poke(k, words[k])
	}
	if !slices.Equal(told, before) {
		t.Error("later words changed it")
	}
	seeLine(t, v, words, w, 3, 512)
}

// TestRound: P17.3, the map goes round: views that differ by its sides are alike.
func TestRound(t *testing.T) {
	v := loaded(t, sample())
	for _, m := range maps {
		for _, at := range []int{0, 1, 7, 8, 250, 511, 1023, 65535, -1, -300} {
			for _, far := range []int{1, 2, 3, -1, -2, 100, 1 << 20, -1 << 20} {
				first := View{m.wide, m.high, at, at + 3}
				across, down, both := first, first, first
				across.X += far * 8 * m.wide
				down.Y += far * 8 * m.high
				both.X, both.Y = across.X, down.Y
				told := Line(v, first, at, 512)
				for _, w := range []View{across, down, both} {
					if !slices.Equal(Line(v, w, at, 512), told) || Pixel(v, w, 9, at) != told[9] {
						t.Errorf("%v and %v differ at %d", w, first, at)
					}
				}
				if Pixel(v, first, 9+far*8*m.wide, at-far*8*m.high) != told[9] || !slices.Equal(Line(v, first, at+far*8*m.high, 512), told) {
					t.Errorf("%v: x and y do not go round at %d", first, at)
				}
			}
		}
	}
}

// TestNotRoundBefore: P17.3, the map goes round at its sides alone: views that differ by half of one are not alike.
func TestNotRoundBefore(t *testing.T) {
	v := loaded(t, sample())
	for _, m := range maps {
		w := View{Wide: m.wide, High: m.high}
		told := Line(v, w, 0, 512)
		for _, moved := range []View{{m.wide, m.high, 4 * m.wide, 0}, {m.wide, m.high, 0, 4 * m.high}, {m.wide, m.high, 1, 0}, {m.wide, m.high, 0, 1}} {
			if slices.Equal(Line(v, moved, 0, 512), told) {
				t.Errorf("%v and %v are alike", moved, w)
			}
		}
	}
}

// TestMovedByOne: P17.3, a line that is moved by one pixel is that line, from the next one on, all round the map; and one that is moved down is the next one.
func TestMovedByOne(t *testing.T) {
	v := loaded(t, sample())
	for _, m := range maps {
		w := View{m.wide, m.high, -1, 6}
		told := Line(v, w, 0, 512)
		for range 8*m.wide + 2 {
			w.X++
			moved := Line(v, w, 0, 512)
			if !slices.Equal(moved[:511], told[1:]) {
				t.Fatalf("%v is not the line before, from the next pixel on", w)
			}
			told = moved
		}
		for _, x := range []int{65534, 65535, 65536, -2, math.MaxInt - 1, math.MinInt} {
			near, next := View{m.wide, m.high, x, 6}, View{m.wide, m.high, x + 1, 6}
			if !slices.Equal(Line(v, next, 0, 511), Line(v, near, 0, 512)[1:]) {
				t.Errorf("%v is not %v, from the next pixel on", next, near)
			}
		}
		for y := -1; y <= 8*m.high; y++ {
			if !slices.Equal(Line(v, View{m.wide, m.high, 3, y + 1}, 2, 100), Line(v, View{m.wide, m.high, 3, y}, 3, 100)) {
				t.Errorf("%v moved down to %d is not its next line", m, y)
			}
		}
	}
}
