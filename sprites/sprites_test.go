package sprites

import (
	"math"
	"slices"
	"testing"

	"phosphor/vram"
)

const (
	size = 32768
	all  = 65536
)

// wordsOf are four words of a sprite, as a program writes them.
type wordsOf [4]int

// numbers are words, and what is none: at both ends of a word and of ten bits, beyond them, below 0, and at both ends of int.
var numbers = []int{
	0, 1, 31, 32, 33, 63, 64, 65, 1022, 1023, 1024, 1025, 2047, 2048, 4095, 4096, 32767, 32768, 65534, 65535, 65536, 65537, 65600, 1<<32 + 77,
	-1, -2, -63, -64, -1023, -1024, -1025, -65535, -65536, -65537,
	math.MaxInt, math.MaxInt - 1, math.MaxInt - 64, math.MinInt, math.MinInt + 1, math.MinInt + 64, math.MinInt + 65535,
}

// modulo is n modulo m, from 0 on: by division, where the package takes masks.
func modulo(n, m int) int { return (n%m + m) % m }

// power is 2 to the k.
func power(k int) int {
	n := 1
	for range k {
		n *= 2
	}
	return n
}

func bitOf(n, k int) int { return modulo(n, all) / power(k) % 2 }

// wantOne is the sprite that must be, by the chapter's words.
func wantOne(w wordsOf) One {
	for k := range w {
		w[k] = modulo(w[k], all)
	}
	s := One{
		Y:       w[0]%1024 - 64,
		X:       w[1]%1024 - 32,
		Cell:    w[2] / 2 % 1024,
		Wide:    16 + 16*bitOf(w[3], 8),
		Palette: w[3] % 16,
		Front:   bitOf(w[3], 7) == 1,
		FlipX:   bitOf(w[3], 11) == 1,
		FlipY:   bitOf(w[3], 15) == 1,
	}
	switch w[3] / 4096 % 4 {
	case 0:
		s.High = 16
	case 1:
		s.High = 32
		s.Cell -= s.Cell / 2 % 2 * 2
	default:
		s.High = 64
		s.Cell -= s.Cell / 2 % 4 * 2
	}
	if s.Wide == 32 {
		s.Cell -= s.Cell % 2
	}
	return s
}

// place lays the words of a sprite into a table.
func place(t *[256]int, k int, w wordsOf) { copy(t[4*k:], w[:]) }

// hidden is a table whose sprites are on no line from 0 on, all of them of one kind.
func hidden() [256]int {
	var t [256]int
	for k := range 64 {
		place(&t, k, wordsOf{0, 40, 2, 0x85})
	}
	return t
}

// colourAt is the colour of a sprite at column i of its row that line y shows, by the chapter's words.
func colourAt(words []int, s One, y, i int) int {
	down, column := y-s.Y, i
	if s.FlipY {
		down = s.High - 1 - down
	}
	if s.FlipX {
		column = s.Wide - 1 - column
	}
	cell := s.Cell + 2*(down/16)
	if column >= 16 {
		cell++
	}
	colour := 0
	for k := range 4 {
		if at := 64*cell + down%16 + 16*k; at < size {
			colour += power(k) * bitOf(words[at], 15-column%16)
		}
	}
	return colour
}

// wantLine is the line that must be: place by place, where the package goes sprite by sprite.
func wantLine(words []int, t [256]int, y, width int) (p Picture, over, hit bool) {
	var on []int
	cells := 0
	for k := range 64 {
		s := wantOne(wordsOf(t[4*k : 4*k+4]))
		if y < s.Y || y > s.Y+s.High-1 {
			continue
		}
		cells += s.Wide / 16
		if cells > 16 {
			over = true
			break
		}
		on = append(on, k)
	}
	for x := range width {
		colour, front, first := 0, false, false
		for _, k := range on {
			s := wantOne(wordsOf(t[4*k : 4*k+4]))
			if x < s.X || x > s.X+s.Wide-1 {
				continue
			}
			c := colourAt(words, s, y, x-s.X)
			switch {
			case c == 0:
			case colour == 0:
				colour, front, first = s.Palette*16+c, s.Front, k == 0
			case first:
				hit = true
			}
		}
		p.Colours, p.Front = append(p.Colours, colour), append(p.Front, front)
	}
	return p, over, hit
}

// sample has words without a pattern, about as many 0 as 1 among their bits.
func sample() []int {
	words := make([]int, size)
	seed := uint32(4711)
	for k := range words {
		seed = seed*1664525 + 1013904223
		words[k] = int(seed >> 16)
	}
	return words
}

// thin has few bits set, so that sprites may be over each other without a pixel at the same place.
func thin() []int {
	words, seeds := sample(), sample()
	for k := range words {
		words[k] &= seeds[(k*7+5)%size] & seeds[(k*31+11)%size] & seeds[(k*5+3)%size]
	}
	return words
}

// ports are such that a read by them, in place of Word, would change them.
var ports = [5]int{100, 200, 32, 55, 6666}

func loaded(t *testing.T, words []int) *vram.Vram {
	t.Helper()
	v, ok := vram.Load(words, ports)
	if !ok {
		t.Fatal("the words are none")
	}
	return v
}

// unchanged sees that a memory is as it was loaded.
func unchanged(t *testing.T, v *vram.Vram, words []int) {
	t.Helper()
	write, read, step, low, buffer := v.Ports()
	if [5]int{write, read, step, low, buffer} != ports || !slices.Equal(v.Words(0, size), words) {
		t.Error("the memory is changed")
	}
}

func same(p, q Picture) bool {
	return slices.Equal(p.Colours, q.Colours) && slices.Equal(p.Front, q.Front)
}

// see holds a line against what must be.
func see(t *testing.T, v *vram.Vram, words []int, table [256]int, y, width int) {
	t.Helper()
	p, over, hit := Line(v, table, y, width)
	wantP, wantOver, wantHit := wantLine(words, table, y, width)
	if !same(p, wantP) || over != wantOver || hit != wantHit {
		t.Fatalf("Line at %d, %d wide: %v %v %v, want %v %v %v", y, width, p, over, hit, wantP, wantOver, wantHit)
	}
}

// TestExample: the chapter's example.
func TestExample(t *testing.T) {
	table := [256]int{}
	v := loaded(t, slices.Repeat([]int{65535}, size))
	for k := range 64 {
		if got := Of(table, k); got != (One{X: -32, Y: -64, Wide: 16, High: 16}) {
			t.Errorf("sprite %d: %v", k, got)
		}
	}
	for y := range 300 {
		p, over, hit := Line(v, table, y, 256)
		if !same(p, Picture{make([]int, 256), make([]bool, 256)}) || over || hit {
			t.Errorf("line %d: %v %v %v", y, p, over, hit)
		}
	}
}

// TestOfWrittenOut: P18.1, sprites written out.
func TestOfWrittenOut(t *testing.T) {
	for _, c := range []struct {
		w    wordsOf
		want One
	}{
		{wordsOf{0, 0, 0, 0}, One{X: -32, Y: -64, Wide: 16, High: 16}},
		{wordsOf{64, 32, 0, 0}, One{Wide: 16, High: 16}},
		{wordsOf{1023, 1023, 0, 0}, One{X: 991, Y: 959, Wide: 16, High: 16}},
		{wordsOf{1024, 1024, 0, 0}, One{X: -32, Y: -64, Wide: 16, High: 16}},
		{wordsOf{65535, 65535, 65535, 65535}, One{X: 991, Y: 959, Cell: 0x3f8, Wide: 32, High: 64, Palette: 15, Front: true, FlipX: true, FlipY: true}},
		{wordsOf{-1, -1, -1, -1}, One{X: 991, Y: 959, Cell: 0x3f8, Wide: 32, High: 64, Palette: 15, Front: true, FlipX: true, FlipY: true}},
		{wordsOf{65536, 65536, 65536, 65536}, One{X: -32, Y: -64, Wide: 16, High: 16}},
		{wordsOf{65537, 65538, 65542, 65543}, One{X: -30, Y: -63, Cell: 3, Wide: 16, High: 16, Palette: 7}},
		{wordsOf{math.MaxInt, math.MinInt, math.MaxInt, math.MinInt}, One{X: -32, Y: 959, Cell: 0x3ff, Wide: 16, High: 16}},
		{wordsOf{math.MinInt, math.MaxInt, math.MinInt, math.MaxInt}, One{X: 991, Y: -64, Wide: 32, High: 64, Palette: 15, Front: true, FlipX: true, FlipY: true}},
		{wordsOf{0, 0, 1, 0}, One{X: -32, Y: -64, Wide: 16, High: 16}},
		{wordsOf{0, 0, 2, 0}, One{X: -32, Y: -64, Cell: 1, Wide: 16, High: 16}},
		{wordsOf{0, 0, 0x400, 0}, One{X: -32, Y: -64, Cell: 512, Wide: 16, High: 16}},
		{wordsOf{0, 0, 0x800, 0}, One{X: -32, Y: -64, Wide: 16, High: 16}},
		{wordsOf{0, 0, 0xffff, 0x0000}, One{X: -32, Y: -64, Cell: 1023, Wide: 16, High: 16}},
		{wordsOf{0, 0, 0xffff, 0x0100}, One{X: -32, Y: -64, Cell: 1022, Wide: 32, High: 16}},
		{wordsOf{0, 0, 0xffff, 0x1000}, One{X: -32, Y: -64, Cell: 1021, Wide: 16, High: 32}},
		{wordsOf{0, 0, 0xffff, 0x1100}, One{X: -32, Y: -64, Cell: 1020, Wide: 32, High: 32}},
		{wordsOf{0, 0, 0xffff, 0x2000}, One{X: -32, Y: -64, Cell: 1017, Wide: 16, High: 64}},
		{wordsOf{0, 0, 0xffff, 0x2100}, One{X: -32, Y: -64, Cell: 1016, Wide: 32, High: 64}},
		{wordsOf{0, 0, 0xffff, 0x3000}, One{X: -32, Y: -64, Cell: 1017, Wide: 16, High: 64}},
		{wordsOf{0, 0, 0xffff, 0x3100}, One{X: -32, Y: -64, Cell: 1016, Wide: 32, High: 64}},
		{wordsOf{0, 0, 0, 0x0080}, One{X: -32, Y: -64, Wide: 16, High: 16, Front: true}},
		{wordsOf{0, 0, 0, 0x0800}, One{X: -32, Y: -64, Wide: 16, High: 16, FlipX: true}},
		{wordsOf{0, 0, 0, 0x8000}, One{X: -32, Y: -64, Wide: 16, High: 16, FlipY: true}},
		{wordsOf{0, 0, 0, 0x4670}, One{X: -32, Y: -64, Wide: 16, High: 16}},
	} {
		for _, k := range []int{0, 1, 2, 31, 62, 63} {
			table := hidden()
			place(&table, k, c.w)
			if got := Of(table, k); got != c.want {
				t.Errorf("%v as sprite %d: %v, want %v", c.w, k, got, c.want)
			}
		}
	}
}

// TestOfNumbers: P18.1, all numbers as each of the four words, and the others of three kinds.
func TestOfNumbers(t *testing.T) {
	for _, others := range []wordsOf{{0, 0, 0, 0}, {65535, 65535, 65535, 65535}, {77, 99, 0x7fe, 0x1100}} {
		for which := range 4 {
			for _, n := range numbers {
				w := others
				w[which] = n
				for _, k := range []int{0, 1, 63} {
					table := hidden()
					place(&table, k, w)
					if got, want := Of(table, k), wantOne(w); got != want {
						t.Errorf("%v as sprite %d: %v, want %v", w, k, got, want)
					}
				}
			}
		}
	}
}

// TestOfBits: P18.1, each bit of the four words alone, and each alone missing; a word's own field alone changes by it.
func TestOfBits(t *testing.T) {
	for which := range 4 {
		for bit := range 16 {
			for _, others := range []int{0, 65535} {
				w := wordsOf{others, others, others, others}
				w[which] ^= power(bit)
				table := [256]int{}
				place(&table, 9, w)
				if got, want := Of(table, 9), wantOne(w); got != want {
					t.Errorf("%#x: %v, want %v", w, got, want)
				}
			}
		}
	}
}

// TestOfAllWords: P18.1, each word as each of the four.
func TestOfAllWords(t *testing.T) {
	table := hidden()
	for n := range all {
		place(&table, 5, wordsOf{n, n * 3 % all, n * 5 % all, n * 7 % all})
		if got, want := Of(table, 5), wantOne(wordsOf(table[20:24])); got != want {
			t.Fatalf("%v: %v, want %v", table[20:24], got, want)
		}
	}
}

// TestOfCells: P18.1, each cell, with each size.
func TestOfCells(t *testing.T) {
	table := [256]int{}
	for cell := range 1024 {
		for tall := range 4 {
			for wide := range 2 {
				place(&table, 0, wordsOf{0, 0, 2*cell + cell%2, tall<<12 | wide<<8})
				mask := []int{1023, 1021, 1017, 1017}[tall] - wide
				s := Of(table, 0)
				if s.Cell != cell&mask || s.High != []int{16, 32, 64, 64}[tall] || s.Wide != 16+16*wide {
					t.Fatalf("cell %d, %d, %d: %v", cell, wide, tall, s)
				}
			}
		}
	}
	for palette := range 16 {
		place(&table, 0, wordsOf{0, 0, 0, 0xfff0 | palette})
		if s := Of(table, 0); s.Palette != palette {
			t.Errorf("palette %d: %v", palette, s)
		}
	}
}

// TestOfEach: P18.1, each sprite has four words of its own, and there are 64 of them.
func TestOfEach(t *testing.T) {
	table := [256]int{}
	for k := range table {
		table[k] = k*257 + 3
	}
	before := table
	for k := range 64 {
		if got, want := Of(table, k), wantOne(wordsOf{4*k*257 + 3, (4*k+1)*257 + 3, (4*k+2)*257 + 3, (4*k+3)*257 + 3}); got != want {
			t.Errorf("sprite %d: %v, want %v", k, got, want)
		}
	}
	for _, k := range []int{-1, -2, -63, -64, 64, 65, 127, 128, 256, all, -all, 1 << 62, 1<<62 + 1, -1 << 62, math.MaxInt, math.MaxInt - 1, math.MinInt, math.MinInt + 1} {
		if got := Of(table, k); got != (One{}) {
			t.Errorf("sprite %d: %v", k, got)
		}
	}
	if table != before {
		t.Error("the table is changed")
	}
}

// only is a table with one sprite on lines, the others on none.
func only(k int, w wordsOf) [256]int {
	t := hidden()
	place(&t, k, w)
	return t
}

// TestLineWrittenOut: P18.2, one row of a cell, plain, and the other way round.
func TestLineWrittenOut(t *testing.T) {
	v := vram.New()
	v.Poke(64*5+3, 0x8001) // bit 0 of the colours of cell 5, row 3
	v.Poke(64*5+3+16, 0x4001)
	v.Poke(64*5+3+32, 0x2001)
	v.Poke(64*5+3+48, 0x1001)
	for _, c := range []struct {
		x, w3 int
		want  []int
	}{
		{32, 0x20 + 3, []int{49, 50, 52, 56, 0, 0, 0, 0, 0, 0, 0, 0, 0, 0, 0, 63, 0, 0}},
		{34, 15, []int{0, 0, 241, 242, 244, 248, 0, 0, 0, 0, 0, 0, 0, 0, 0, 0, 0, 255}},
		{32, 0x0800, []int{15, 0, 0, 0, 0, 0, 0, 0, 0, 0, 0, 0, 8, 4, 2, 1, 0, 0}},
		{31, 0x4000, []int{2, 4, 8, 0, 0, 0, 0, 0, 0, 0, 0, 0, 0, 0, 15, 0, 0, 0}},
		{17, 0, []int{15, 0, 0, 0, 0, 0, 0, 0, 0, 0, 0, 0, 0, 0, 0, 0, 0, 0}},
		{16, 0, make([]int, 18)},
		{0, 0, make([]int, 18)},
		{32 + 17, 0, []int{0, 0, 0, 0, 0, 0, 0, 0, 0, 0, 0, 0, 0, 0, 0, 0, 0, 1}},
		{32 + 18, 0, make([]int, 18)},
		{1023, 0, make([]int, 18)},
	} {
		for _, k := range []int{0, 1, 63} {
			for _, front := range []bool{false, true} {
				w := wordsOf{64 + 97, c.x, 10, c.w3}
				if front {
					w[3] |= 0x80
				}
				p, over, hit := Line(v, only(k, w), 100, 18)
				if !slices.Equal(p.Colours, c.want) || over || hit || len(p.Front) != 18 {
					t.Fatalf("%v: %v %v %v, want %v", w, p, over, hit, c.want)
				}
				for x := range p.Front {
					if p.Front[x] != (front && c.want[x] != 0) {
						t.Errorf("%v: front %v at %d", w, p.Front[x], x)
					}
				}
			}
		}
	}
}

// TestLineRows: P18.2, on which lines a sprite is, of each size, and which word each of them shows, plain and upside down.
func TestLineRows(t *testing.T) {
	for tall, high := range []int{16, 32, 64, 64} {
		for wide := range 2 {
			for flipY := range 2 {
				for _, top := range []int{-64, -63, -17, -16, -1, 0, 1, 100, 958, 959} {
					w := wordsOf{top + 64, 32, 2 * 64, flipY<<15 | tall<<12 | wide<<8}
					table := only(3, w)
					for k := range 64 {
						if k != 3 { // the others may not be on the lines above the picture either
							table[4*k] = (top + 64 + 512) % 1024
						}
					}
					for down := -2; down <= high+1; down++ {
						v := vram.New()
						for row := range high {
							for across := range 1 + wide {
								v.Poke(64*(64+2*(row/16)+across)+row%16, row+1+across<<8)
							}
						}
						row := down
						if flipY == 1 {
							row = high - 1 - down
						}
						p, _, _ := Line(v, table, top+down, 32)
						word, other := 0, 0
						for x := range 16 {
							word = 2*word + p.Colours[x]
							other = 2*other + p.Colours[16+x]
						}
						want, wantOther := 0, 0
						if row >= 0 && row < high {
							want, wantOther = row+1, wide*(row+1+256)
						}
						if word != want || other != wantOther {
							t.Fatalf("%v at %d: %d %d, want %d %d", w, down, word, other, want, wantOther)
						}
					}
				}
			}
		}
	}
}

// TestLinePixels: P18.2, each bit of each of the four words of a row, with each size, each flip, and each cell of the sprite.
func TestLinePixels(t *testing.T) {
	const cell = 248
	for tall, high := range []int{16, 32, 64, 64} {
		for wide := range 2 {
			for flips := range 4 {
				w := wordsOf{64, 32, 2 * cell, flips&1<<11 | flips>>1<<15 | tall<<12 | wide<<8 | 0x80 | 6}
				table := only(0, w)
				v := vram.New()
				for across := range 1 + wide {
					for row := range high {
						for plane := range 4 {
							at := 64*(cell+2*(row/16)+across) + row%16 + 16*plane
							y := row
							if flips>>1 == 1 {
								y = high - 1 - row
							}
							for bit := range 16 {
								x := 16*across + 15 - bit
								if flips&1 == 1 {
									x = 16*(1+wide) - 1 - x
								}
								v.Poke(at, power(bit))
								want := make([]int, 34)
								want[x] = 6*16 + power(plane)
								if p, _, _ := Line(v, table, y, 34); !slices.Equal(p.Colours, want) || !p.Front[x] {
									t.Fatalf("%v, word %d, bit %d: %v, want %d at %d", w, at, bit, p.Colours, want[x], x)
								}
							}
							v.Poke(at, 0)
						}
					}
				}
			}
		}
	}
}

// TestLineColours: P18.2, each colour of each palette.
func TestLineColours(t *testing.T) {
	for colour := range 16 {
		v := vram.New()
		for plane := range 4 {
			v.Poke(16*plane, colour>>plane%2<<15)
		}
		for palette := range 16 {
			for front := range 2 {
				p, over, hit := Line(v, only(2, wordsOf{64, 32, 0, front<<7 | palette}), 0, 1)
				want := 0
				if colour != 0 {
					want = 16*palette + colour
				}
				if p.Colours[0] != want || p.Front[0] != (front == 1 && colour != 0) || over || hit {
					t.Errorf("colour %d of %d: %v %v %v", colour, palette, p, over, hit)
				}
			}
		}
	}
}

// TestLinePlaces: P18.2, a sprite at each place across, cut at the left, cut at the right, and wholly beside the line, of lines of many widths.
func TestLinePlaces(t *testing.T) {
	words := sample()
	v := loaded(t, words)
	for _, width := range []int{1, 2, 15, 16, 17, 31, 32, 33, 256, 511, 512} {
		for _, kind := range []int{0x0083, 0x0983, 0x3103, 0x9804} {
			for x := range 1024 {
				see(t, v, words, only(x%64, wordsOf{64, x, 0x123, kind}), 5, width)
			}
		}
	}
	unchanged(t, v, words)
}

// TestLineDown: P18.2, sprites at each place down, on lines that they are on, and beside them.
func TestLineDown(t *testing.T) {
	words := sample()
	v := loaded(t, words)
	for _, kind := range []int{0x0083, 0x9103, 0x2803, 0xb984} {
		for down := range 1024 {
			table := only(7, wordsOf{down, 33, 0x177, kind})
			s := Of(table, 7)
			for _, y := range []int{s.Y - 1, s.Y, s.Y + 1, s.Y + 15, s.Y + 16, s.Y + s.High - 1, s.Y + s.High, 0, -1, -64, -65, 959, 1022, 1023} {
				see(t, v, words, table, y, 40)
			}
		}
	}
}

// TestLineNowhere: P18.2, on lines far from all sprites, to both ends of int, there is none.
func TestLineNowhere(t *testing.T) {
	v := loaded(t, slices.Repeat([]int{65535}, size))
	for _, table := range [][256]int{{}, hidden(), only(0, wordsOf{1023, 32, 0, 0xffff}), only(1, wordsOf{65535, 32, 0, 0x3000})} {
		for _, y := range []int{-65, -66, -128, -1024, -1088, -all, -all - 1, 1023, 1024, 1088, 32768, all - 1, all, all + 1, 1<<32 - 64, math.MaxInt, math.MaxInt - 1, math.MaxInt - 63, math.MinInt, math.MinInt + 1, math.MinInt + 64, math.MinInt + 959, math.MaxInt - 64} {
			p, over, hit := Line(v, table, y, 64)
			if !same(p, Picture{make([]int, 64), make([]bool, 64)}) || over || hit {
				t.Errorf("line %d: %v %v %v", y, p, over, hit)
			}
		}
	}
}

// TestLineWidths: P18.2, each width that a line may have.
func TestLineWidths(t *testing.T) {
	words := sample()
	v := loaded(t, words)
	table := hidden()
	for k := range 10 {
		place(&table, 3*k, wordsOf{64 + k, 32 + 50*k, 37 * k, 0x1100*(k%2) + k})
	}
	for width := 1; width <= 512; width++ {
		see(t, v, words, table, 12, width)
	}
	p, _, _ := Line(v, table, 12, 512)
	if len(p.Colours) != 512 || len(p.Front) != 512 {
		t.Errorf("%d colours, %d front", len(p.Colours), len(p.Front))
	}
}

// TestLineNoWidth: P18.2, nothing, where the width is not from 1 to 512, even where there were too many, and the first one touches another.
func TestLineNoWidth(t *testing.T) {
	v := loaded(t, slices.Repeat([]int{65535}, size))
	table := [256]int{}
	for k := range 64 {
		place(&table, k, wordsOf{64, 32, 0, 0x83})
	}
	if _, over, hit := Line(v, table, 0, 1); !over || !hit {
		t.Fatal("neither too many, nor a touch")
	}
	for _, width := range []int{0, -1, -2, -511, -512, -513, 513, 514, 1024, all, all + 1, all + 512, 1<<32 + 8, 8 - all, math.MaxInt, math.MaxInt - 1, math.MinInt, math.MinInt + 1, math.MinInt + 512} {
		p, over, hit := Line(v, table, 0, width)
		if len(p.Colours) != 0 || len(p.Front) != 0 || over || hit {
			t.Errorf("%d wide: %d colours, %d front, %v %v", width, len(p.Colours), len(p.Front), over, hit)
		}
	}
}

// TestLineBeyond: P18.2, cells beyond the memory's end have no colour; those at its end have.
func TestLineBeyond(t *testing.T) {
	words := slices.Repeat([]int{65535}, size)
	v := loaded(t, words)
	for cell := range 1024 {
		for _, kind := range []int{0, 0x0100, 0x1000, 0x3100, 0x8800, 0xb900} {
			table := only(9, wordsOf{64, 32, 2 * cell, kind})
			s := Of(table, 9)
			p, _, _ := Line(v, table, s.High-1, 32)
			want := make([]int, 32)
			for x := range s.Wide {
				if s.Cell < 512 {
					want[x] = 15
				}
			}
			if !slices.Equal(p.Colours, want) {
				t.Fatalf("cell %d, kind %#x: %v", cell, kind, p.Colours)
			}
		}
	}
	for k := range words {
		words[k] = 0
	}
	v = loaded(t, words)
	v.Poke(size-1, 1)
	if p, _, _ := Line(v, only(0, wordsOf{64, 32, 2 * 511, 0x10}), 15, 17); p.Colours[15] != 8 || p.Colours[14] != 0 || p.Colours[16] != 0 {
		t.Errorf("by the memory's last word: %v", p.Colours)
	}
}

// dotted is a memory whose cells have one pixel a row: cell 0 a colour of 1 at the left, cell 1 one of 2 there, cells 2 and 3 of a sprite of 32 one of 3 at the left and one of 4 at the right.
func dotted() *vram.Vram {
	v := vram.New()
	for row := range 16 {
		v.Poke(row, 0x8000)
		v.Poke(64+row+16, 0x8000)
		v.Poke(128+row, 0x8000)
		v.Poke(128+row+16, 0x8000)
		v.Poke(192+row+32, 0x0001)
	}
	return v
}

// TestLineMany: P18.2, sixteen cells fit on a line; the one that would take the seventeenth is not seen, nor any behind it, even one that would fit.
func TestLineMany(t *testing.T) {
	v := dotted()
	thinOne := func(x int) wordsOf { return wordsOf{64, 32 + x, 0, 0} }
	wideOne := func(x int) wordsOf { return wordsOf{64, 32 + x, 4, 0x100} }
	for _, c := range []struct {
		name       string
		thin, wide int // so many of 16, and then so many of 32
		seen       int // how many of these are seen, when one of 16 follows
		over       bool
	}{
		{"none", 0, 0, 1, false},
		{"15", 15, 0, 16, false},
		{"16", 16, 0, 16, true},
		{"17", 17, 0, 16, true},
		{"63", 63, 0, 16, true},
		{"14 and a wide one", 14, 1, 15, true},
		{"13 and a wide one", 13, 1, 15, false},
		{"15 and a wide one", 15, 1, 15, true},
		{"15 and three wide ones", 15, 3, 15, true},
		{"16 and a wide one", 16, 1, 16, true},
		{"7 wide ones", 0, 7, 8, false},
		{"8 wide ones", 0, 8, 8, true},
		{"9 wide ones", 0, 9, 8, true},
		{"1 and 7 wide ones", 1, 7, 9, false},
		{"1 and 8 wide ones", 1, 8, 8, true},
		{"2 and 7 wide ones", 2, 7, 9, true},
	} {
		for _, gap := range []int{0, 1} { // with sprites that are not on the line among them, or not
			table := hidden()
			k := 0
			lay := func(w wordsOf) {
				if k < 64 {
					place(&table, k, w)
				}
				k += 1 + gap
			}
			for n := range c.thin {
				lay(thinOne(4 * n))
			}
			for n := range c.wide {
				lay(wideOne(4 * (c.thin + n)))
			}
			lay(thinOne(4 * (c.thin + c.wide)))
			p, over, hit := Line(v, table, 7, 512)
			if over != c.over || hit {
				t.Errorf("%s, gap %d: over %v, hit %v", c.name, gap, over, hit)
			}
			for n := range 70 {
				if got := p.Colours[4*n] == 1 || p.Colours[4*n] == 3; got != (n < c.seen) {
					t.Errorf("%s, gap %d: sprite %d is seen: %v", c.name, gap, n, got)
				}
			}
		}
	}
}

// TestLineManyBeside: P18.2, sprites that are wholly beside the line, without a colour or behind others take their cells too; and those on no line none.
func TestLineManyBeside(t *testing.T) {
	for _, w := range []wordsOf{{64, 0, 0, 0}, {64, 1023, 0, 0}, {64, 32 + 100, 0, 0}, {64, 32, 2 * 1000, 0}, {64, 32, 2 * 9, 0}, {64, 32 + 50, 0, 0x80}} {
		for _, n := range []int{15, 16, 17} {
			table := hidden()
			for k := range n {
				place(&table, k, w)
			}
			place(&table, 40, wordsOf{64, 32 + 50, 2, 0x80 + 7})
			p, over, _ := Line(dotted(), table, 0, 100)
			seen := p.Colours[50] == 7*16+2
			if over != (n > 15) || w[1] != 32+50 && seen != (n == 15) {
				t.Errorf("%d of %v: over %v, seen %v", n, w, over, seen)
			}
		}
	}
	table := [256]int{}
	for k := range 64 {
		place(&table, k, wordsOf{64 + 16, 32, 0, 0x100})
	}
	for _, y := range []int{15, 32} {
		if _, over, hit := Line(dotted(), table, y, 100); over || hit {
			t.Errorf("line %d: over %v, hit %v", y, over, hit)
		}
	}
	for _, y := range []int{16, 31} {
		if _, over, _ := Line(dotted(), table, y, 100); !over {
			t.Errorf("line %d: not over", y)
		}
	}
}

// TestLineManyTouch: P18.2, a sprite that is not gone over any more touches none.
func TestLineManyTouch(t *testing.T) {
	for _, c := range []struct {
		at        int
		over, hit bool
	}{{14, false, true}, {15, false, true}, {16, true, false}, {17, true, false}, {63, true, false}} {
		table := hidden()
		for k := range c.at {
			place(&table, k, wordsOf{64, 32 + 5*k, 0, 0})
		}
		place(&table, c.at, wordsOf{64, 32, 2, 9})
		if p, over, hit := Line(dotted(), table, 0, 300); over != c.over || hit != c.hit || p.Colours[0] != 1 {
			t.Errorf("the sprite %d: over %v, hit %v, %d", c.at, over, hit, p.Colours[0])
		}
	}
}

// TestLineOver: P18.2, sprites over each other: the one ahead is seen, but for its colours of 0, whatever is in front of the background.
func TestLineOver(t *testing.T) {
	v := dotted()
	for ahead := range 2 {
		for behind := range 2 {
			for _, at := range [][2]int{{0, 1}, {0, 63}, {3, 4}, {30, 50}} {
				table := hidden()
				place(&table, at[0], wordsOf{64, 32 + 3, 0, ahead<<7 | 5})
				place(&table, at[1], wordsOf{64, 32 + 3, 4, behind<<7 | 6 | 0x100})
				p, over, hit := Line(v, table, 0, 40)
				want := make([]int, 40)
				want[3], want[34] = 5*16+1, 6*16+4
				if !slices.Equal(p.Colours, want) || p.Front[3] != (ahead == 1) || p.Front[34] != (behind == 1) || over || hit != (at[0] == 0) {
					t.Errorf("%v: %v %v %v", at, p, over, hit)
				}
			}
		}
	}
}

// TestHit: P18.2, the first sprite touches another where both have a pixel on the line.
func TestHit(t *testing.T) {
	v := dotted()
	for _, c := range []struct {
		name  string
		y     int
		first wordsOf
		other wordsOf
		third wordsOf
		hit   bool
	}{
		{"at the same place", 0, wordsOf{64, 42, 0, 0}, wordsOf{64, 42, 2, 0}, wordsOf{}, true},
		{"at the line's first place", 0, wordsOf{64, 32, 0, 0}, wordsOf{64, 32, 2, 0}, wordsOf{}, true},
		{"at the line's last place", 0, wordsOf{64, 32 + 99, 0, 0}, wordsOf{64, 32 + 99, 2, 0}, wordsOf{}, true},
		{"behind the line", 0, wordsOf{64, 32 + 100, 0, 0}, wordsOf{64, 32 + 100, 2, 0}, wordsOf{}, false},
		{"ahead of the line", 0, wordsOf{64, 31, 0, 0}, wordsOf{64, 31, 2, 0}, wordsOf{}, false},
		{"over each other without a pixel", 0, wordsOf{64, 42, 0, 0}, wordsOf{64, 43, 2, 0}, wordsOf{}, false},
		{"over each other without a pixel of the other", 0, wordsOf{64, 42, 0, 0}, wordsOf{64, 42, 200, 0}, wordsOf{}, false},
		{"over each other without a pixel of the first", 0, wordsOf{64, 42, 200, 0}, wordsOf{64, 42, 2, 0}, wordsOf{}, false},
		{"two others", 0, wordsOf{64, 80, 0, 0}, wordsOf{64, 42, 2, 0}, wordsOf{64, 42, 2, 0}, false},
		{"two others, and no first", 0, wordsOf{0, 42, 0, 0}, wordsOf{64, 42, 2, 0}, wordsOf{64, 42, 2, 0}, false},
		{"the first is above the line", 16, wordsOf{64, 42, 0, 0}, wordsOf{65, 42, 2, 0}, wordsOf{}, false},
		{"the first is below the line", 0, wordsOf{65, 42, 0, 0}, wordsOf{64, 42, 2, 0}, wordsOf{}, false},
		{"the other is not on the line", 0, wordsOf{64, 42, 0, 0}, wordsOf{65, 42, 2, 0}, wordsOf{}, false},
		{"on one line of both", 15, wordsOf{64, 42, 0, 0}, wordsOf{64 + 15, 42, 2, 0}, wordsOf{}, true},
		{"by the third alone", 0, wordsOf{64, 42, 0, 0}, wordsOf{64, 50, 2, 0}, wordsOf{64, 42, 2, 0}, true},
		{"the other touched first, and then another", 0, wordsOf{64, 42, 0, 0}, wordsOf{64, 42, 2, 0}, wordsOf{64, 60, 2, 0}, true},
		{"the right pixel of a wide one", 0, wordsOf{64, 32 + 31, 0, 0}, wordsOf{64, 32, 4, 0x100}, wordsOf{}, true},
		{"a wide one's own pixels", 0, wordsOf{64, 32, 4, 0x100}, wordsOf{}, wordsOf{}, false},
		{"both in front of the background", 0, wordsOf{64, 42, 0, 0x80}, wordsOf{64, 42, 2, 0x80}, wordsOf{}, true},
		{"cut at the left", 0, wordsOf{64, 20, 4, 0x100}, wordsOf{64, 51, 0, 0}, wordsOf{}, true},
		{"the other way round", 0, wordsOf{64, 42, 0, 0x800}, wordsOf{64, 42 + 15, 2, 0}, wordsOf{}, true},
	} {
		for _, k := range []int{1, 2, 62} {
			table := hidden()
			place(&table, 0, c.first)
			place(&table, k, c.other)
			place(&table, k+1, c.third)
			_, over, hit := Line(v, table, c.y, 100)
			if hit != c.hit || over {
				t.Errorf("%s, by sprite %d: hit %v, over %v", c.name, k, hit, over)
			}
		}
	}
}

// tableOf has sprites without a pattern, about so many of them on the lines round 0.
func tableOf(seed uint32, spread int) [256]int {
	var t [256]int
	next := func(n int) int {
		seed = seed*1664525 + 1013904223
		return int(seed>>8) % n
	}
	for k := range 64 {
		place(&t, k, wordsOf{next(spread) + next(64)<<10, next(1024)/3 + next(64)<<10, next(all), next(all)})
	}
	return t
}

// TestLineTables: P18.2, whole tables held against what must be, with sprites everywhere, cells from all the memory and beyond it, and numbers that are no words.
func TestLineTables(t *testing.T) {
	for _, words := range [][]int{sample(), thin()} {
		v := loaded(t, words)
		overs, hits, both := 0, 0, 0
		for n := range 60 {
			table := tableOf(uint32(n*977+1), []int{100, 300, 1024}[n%3])
			if n%4 < 2 { // a great first one, that others touch
				place(&table, 0, wordsOf{64 + n, 32 + 4*n, 16 * n, 0x3180 | n%2<<11})
			}
			if n%2 == 1 {
				for k := range table {
					table[k] += (k%7 - 3) * all
				}
			}
			before := table
			for y := -70; y < 260; y += 11 {
				see(t, v, words, table, y, []int{256, 320, 512, 100}[n%4])
				_, over, hit := Line(v, table, y, 256)
				if over {
					overs++
				}
				if hit {
					hits++
				}
				if over && hit {
					both++
				}
			}
			if table != before {
				t.Fatal("the table is changed")
			}
		}
		if overs < 50 || hits < 20 || both < 5 {
			t.Errorf("too few of them: %d %d %d", overs, hits, both)
		}
		unchanged(t, v, words)
	}
}

// TestLineNumbers: P18.2, all numbers as each of the four words of a sprite.
func TestLineNumbers(t *testing.T) {
	words := sample()
	v := loaded(t, words)
	for which := range 4 {
		for _, n := range numbers {
			for _, k := range []int{0, 1, 63} {
				w := wordsOf{64, 32, 0x55, 0x81}
				w[which] = n
				table := only(k, w)
				s := wantOne(w)
				for _, y := range []int{s.Y - 1, s.Y, s.Y + s.High - 1, s.Y + s.High, 0} {
					see(t, v, words, table, y, 300)
				}
			}
		}
	}
}

// TestNone: P18.2 and rule 1, of nil and of one that no call made nothing is told, even where there would be too many.
func TestNone(t *testing.T) {
	for _, table := range [][256]int{{}, hidden(), tableOf(5, 100)} {
		for _, y := range numbers {
			for _, width := range []int{-1, 0, 1, 8, 512, 513, math.MaxInt, math.MinInt} {
				plain := vram.Vram{}
				for _, v := range []*vram.Vram{nil, &plain} {
					p, over, hit := Line(v, table, y, width)
					if len(p.Colours) != 0 || len(p.Front) != 0 || over || hit {
						t.Fatalf("Line of none at %d, %d wide: %v %v %v", y, width, p, over, hit)
					}
				}
				if plain != (vram.Vram{}) {
					t.Fatal("a plain one is changed")
				}
			}
		}
	}
}

// TestLineKeepsNothing: P18.2 and rule 4, a line is new memory, its spare room too, and no later call, word or table changes it.
func TestLineKeepsNothing(t *testing.T) {
	words := sample()
	v := loaded(t, words)
	table := tableOf(11, 100)
	for _, width := range []int{1, 9, 512} {
		told, over, hit := Line(v, table, 20, width)
		before := Picture{slices.Clone(told.Colours), slices.Clone(told.Front)}
		other, _, _ := Line(v, table, 20, width)
		other.Colours, other.Front = other.Colours[:cap(other.Colours)], other.Front[:cap(other.Front)]
		for k := range other.Colours {
			other.Colours[k] = -9
		}
		for k := range other.Front {
			other.Front[k] = !other.Front[k]
		}
		again, overAgain, hitAgain := Line(v, table, 20, width)
		if !same(told, before) || !same(again, before) || over != overAgain || hit != hitAgain {
			t.Errorf("%d wide: what was told is kept", width)
		}
		Line(v, tableOf(12, 100), 21, 512)
		if !same(told, before) {
			t.Errorf("%d wide: a later line changed it", width)
		}
	}
	unchanged(t, v, words)
	told, _, _ := Line(v, table, 20, 512)
	before := Picture{slices.Clone(told.Colours), slices.Clone(told.Front)}
	for k := range size {
		words[k] = 65535 - words[k]
		v.Poke(k, words[k])
	}
	if !same(told, before) {
		t.Error("later words changed it")
	}
	see(t, v, words, table, 20, 512)
}

// TestLineAlone: P18.3, a line depends on the sprites that are on it alone: others may be anything, while they are not on it.
func TestLineAlone(t *testing.T) {
	words := sample()
	v := loaded(t, words)
	for n := range 30 {
		table := tableOf(uint32(n+1), 300)
		for y := -64; y < 240; y += 7 {
			told, over, hit := Line(v, table, y, 256)
			changed := table
			others := tableOf(uint32(n+999), 1024)
			for k := range 64 {
				s := wantOne(wordsOf(table[4*k : 4*k+4]))
				o := wantOne(wordsOf(others[4*k : 4*k+4]))
				if (y < s.Y || y >= s.Y+s.High) && (y < o.Y || y >= o.Y+o.High) {
					place(&changed, k, wordsOf(others[4*k:4*k+4]))
				}
			}
			if changed == table {
				t.Fatal("no other sprites")
			}
			p, overToo, hitToo := Line(v, changed, y, 256)
			if !same(p, told) || over != overToo || hit != hitToo {
				t.Fatalf("table %d, line %d: sprites that are not on it change it", n, y)
			}
		}
	}
}

// TestLineNeverLost: P18.3, a pixel of a sprite ahead is never lost, whatever is laid behind: with one sprite more, and another, what was there stays.
func TestLineNeverLost(t *testing.T) {
	for _, words := range [][]int{sample(), thin()} {
		v := loaded(t, words)
		for n := range 20 {
			full := tableOf(uint32(3*n+1), 64)
			for _, y := range []int{0, 3, 9, 15} {
				table := hidden()
				told, over, hit := Line(v, table, y, 320)
				for k := range 64 {
					copy(table[4*k:4*k+4], full[4*k:4*k+4])
					p, overToo, hitToo := Line(v, table, y, 320)
					for x, colour := range told.Colours {
						if colour != 0 && (p.Colours[x] != colour || p.Front[x] != told.Front[x]) {
							t.Fatalf("table %d, line %d: sprite %d takes the pixel at %d", n, y, k, x)
						}
					}
					if over && !overToo || hit && !hitToo {
						t.Fatalf("table %d, line %d: sprite %d takes back that there were too many, or a touch", n, y, k)
					}
					told, over, hit = p, overToo, hitToo
				}
			}
		}
	}
}
