package line

import (
	"math"
	"slices"
	"testing"

	"phosphor/regs"
	"phosphor/sprites"
	"phosphor/tiles"
	"phosphor/vce"
	"phosphor/vram"
)

const size = 32768

// The control register with the bits that show something.
const (
	neither     = 0
	spritesOnly = 0x40
	backOnly    = 0x80
	both        = 0xc0
)

var shows = []int{neither, spritesOnly, backOnly, both}

// edges are numbers at both ends of int, below 0, at both ends of a word, and at the ends of maps.
var edges = []int{
	0, 1, 7, 8, 255, 256, 257, 511, 512, 513, 1023, 1024, 1025, 65534, 65535, 65536, 65537,
	-1, -2, -8, -255, -256, -512, -1024, -65535, -65536, -65537,
	math.MaxInt, math.MaxInt - 1, math.MaxInt - 7, math.MinInt, math.MinInt + 1, math.MinInt + 7,
}

// sample has words without a pattern, about as many 0 as 1 among their bits.
func sample() []int {
	words := make([]int, size)
	seed := uint32(271828)
	for k := range words {
		seed = seed*1664525 + 1013904223
		words[k] = int(seed >> 16)
	}
	return words
}

// thin has few bits set, so that much of background and sprites is of colour 0.
func thin() []int {
	words, seeds := sample(), sample()
	for k := range words {
		words[k] &= seeds[(k*7+5)%size] & seeds[(k*31+11)%size]
	}
	return words
}

// ports are such that a read by them, in place of Word, would change them.
var ports = [5]int{100, 200, 32, 55, 6666}

func loaded(t *testing.T, words []int) *vram.Vram {
	t.Helper()
	v, ok := vram.Load(words, ports)
	if !ok {
		t.Fatal("the words are none")
	}
	return v
}

// unchanged sees that a memory is as it was loaded.
func unchanged(t *testing.T, v *vram.Vram, words []int) {
	t.Helper()
	write, read, step, low, buffer := v.Ports()
	if [5]int{write, read, step, low, buffer} != ports || !slices.Equal(v.Words(0, size), words) {
		t.Error("the memory is changed")
	}
}

// numbered has colours that are their numbers.
func numbered() vce.Vce {
	var c vce.Vce
	for k := range c.Table {
		c.Table[k] = k
	}
	return c
}

// mingled has colours without a pattern: no two neighbours are alike.
func mingled() vce.Vce {
	var c vce.Vce
	for k := range c.Table {
		c.Table[k] = (k*37 + 101) % 512
	}
	return c
}

// scattered is a table with sprites of each size, about the lines from -20 to 80.
func scattered(seed uint32) [256]int {
	var table [256]int
	next := func(n int) int {
		seed = seed*1664525 + 1013904223
		return int(seed>>8) % n
	}
	for k := range 64 {
		table[4*k] = 44 + next(100)
		table[4*k+1] = next(400)
		table[4*k+2] = next(2048)
		table[4*k+3] = next(65536)
	}
	return table
}

// wantMix is what must be seen, by the chapter's words: a list of those places that a sprite covers is made ahead.
func wantMix(back []int, p sprites.Picture) []int {
	covered := map[int]int{}
	for x, colour := range p.Colours {
		if x < len(p.Front) && x < len(back) && colour != 0 {
			if p.Front[x] {
				covered[x] = colour
			} else if back[x] == 0 {
				covered[x] = colour
			}
		}
	}
	var want []int
	for x, b := range back {
		if colour, ok := covered[x]; ok {
			b = 256 + colour
		}
		want = append(want, b)
	}
	return want
}

// wantDraw is the line that must be, pixel by pixel, where the package takes whole lines.
func wantDraw(in Input) (colours []int, over, hit bool) {
	if in.Wide < 1 || in.Wide > 512 {
		return nil, false, false
	}
	control := in.Regs.R[5]
	var p sprites.Picture
	if control/64%2 == 1 {
		p, over, hit = sprites.Line(in.Vram, in.Table, in.Line, in.Wide)
	}
	wide, high := regs.Map(in.Regs)
	for x := range in.Wide {
		k := 0
		if control/128%2 == 1 {
			k = tiles.Pixel(in.Vram, tiles.View{Wide: wide, High: high, X: in.X, Y: in.Y}, x, 0)
		}
		if p.Colours != nil && p.Colours[x] != 0 && (p.Front[x] || k == 0) {
			k = 256 + p.Colours[x]
		}
		colours = append(colours, vce.Colour(in.Vce, k))
	}
	return colours, over, hit
}

// see holds a line against what must be.
func see(t *testing.T, in Input) {
	t.Helper()
	got, over, hit := Draw(in)
	want, wantOver, wantHit := wantDraw(in)
	if !slices.Equal(got, want) || over != wantOver || hit != wantHit {
		t.Fatalf("X %d, Y %d, Line %d, Wide %d, control %#x, map %#x: %v %v %v, want %v %v %v",
			in.X, in.Y, in.Line, in.Wide, in.Regs.R[5], in.Regs.R[9], got, over, hit, want, wantOver, wantHit)
	}
}

// is holds a line against what is written out.
func is(t *testing.T, what string, in Input, want []int, wantOver, wantHit bool) {
	t.Helper()
	got, over, hit := Draw(in)
	if !slices.Equal(got, want) || over != wantOver || hit != wantHit {
		t.Errorf("%s: %v %v %v, want %v %v %v", what, got, over, hit, want, wantOver, wantHit)
	}
}

// TestExample: the chapter's example.
func TestExample(t *testing.T) {
	got := Mix([]int{0, 5, 5}, sprites.Picture{Colours: []int{3, 3, 3}, Front: []bool{false, false, true}})
	if !slices.Equal(got, []int{259, 5, 259}) {
		t.Error(got)
	}
}

// TestMixPlaces: P19.1, each kind of a place written out.
func TestMixPlaces(t *testing.T) {
	for _, c := range []struct {
		back, colour int
		front        bool
		want         int
	}{
		{0, 0, false, 0}, {0, 0, true, 0},
		{0, 1, false, 257}, {0, 1, true, 257},
		{0, 255, false, 511}, {0, 255, true, 511},
		{1, 0, false, 1}, {1, 0, true, 1},
		{1, 1, false, 1}, {1, 1, true, 257},
		{1, 255, false, 1}, {1, 255, true, 511},
		{5, 3, false, 5}, {5, 3, true, 259},
		{255, 0, false, 255}, {255, 0, true, 255},
		{255, 255, false, 255}, {255, 255, true, 511},
		{256, 1, false, 256}, {511, 1, true, 257},
		{-1, 0, false, -1}, {-1, 0, true, -1},
		{-1, 1, false, -1}, {-1, 1, true, 257},
		{-256, 255, false, -256}, {-256, 255, true, 511},
		{math.MinInt, 0, false, math.MinInt}, {math.MinInt, 1, false, math.MinInt}, {math.MinInt, 1, true, 257},
		{math.MaxInt, 0, true, math.MaxInt}, {math.MaxInt, 255, false, math.MaxInt}, {math.MaxInt, 255, true, 511},
		{0, -1, false, 255}, {0, -1, true, 255}, {7, -1, false, 7}, {7, -1, true, 255},
		{0, -256, true, 0}, {9, -256, true, 0}, {9, -256, false, 9},
	} {
		for _, at := range []int{0, 1, 300, 511} {
			back := slices.Repeat([]int{77}, 512)
			p := sprites.Picture{Colours: make([]int, 512), Front: make([]bool, 512)}
			want := slices.Clone(back)
			back[at], p.Colours[at], p.Front[at], want[at] = c.back, c.colour, c.front, c.want
			if got := Mix(back, p); !slices.Equal(got, want) {
				t.Errorf("back %d, colour %d, front %v, at %d: %d, want %d", c.back, c.colour, c.front, at, got[at], c.want)
			}
		}
	}
}

// TestMixLengths: P19.1, backs and pictures of all lengths, also such as have more colours than Front, and the other way: what is told is as long as back.
func TestMixLengths(t *testing.T) {
	lengths := []int{0, 1, 2, 3, 8, 511, 512, 513, 600}
	for _, n := range lengths {
		for _, colours := range lengths {
			for _, fronts := range lengths {
				for _, b := range []int{0, 6, -6} {
					for _, front := range []bool{false, true} {
						back := slices.Repeat([]int{b}, n)
						p := sprites.Picture{Colours: slices.Repeat([]int{9}, colours), Front: slices.Repeat([]bool{front}, fronts)}
						got := Mix(back, p)
						if len(got) != n {
							t.Fatalf("back of %d: %d are told", n, len(got))
						}
						for x, k := range got {
							want := b
							if x < colours && x < fronts && (front || b == 0) {
								want = 265
							}
							if k != want {
								t.Fatalf("back of %d times %d, %d colours, %d fronts (%v): %d at %d, want %d", n, b, colours, fronts, front, k, x, want)
							}
						}
					}
				}
			}
		}
	}
}

// TestMixNone: P19.1 and rule 3, lists without an element may be nil or empty.
func TestMixNone(t *testing.T) {
	pictures := []sprites.Picture{
		{}, {Colours: []int{}, Front: []bool{}}, {Colours: []int{3}, Front: []bool{true}},
		{Colours: []int{3}}, {Front: []bool{true}}, {Colours: []int{3}, Front: []bool{}}, {Colours: []int{}, Front: []bool{true}},
	}
	for k, p := range pictures {
		for _, back := range [][]int{nil, {}} {
			if got := Mix(back, p); len(got) != 0 {
				t.Errorf("picture %d: %v", k, got)
			}
		}
		want := []int{0}
		if k == 2 {
			want = []int{259}
		}
		if got := Mix([]int{0}, p); !slices.Equal(got, want) {
			t.Errorf("picture %d: %v, want %v", k, got, want)
		}
	}
}

// TestMixMany: P19.1, backs and pictures without a pattern.
func TestMixMany(t *testing.T) {
	words := sample()
	for n := range 200 {
		at := n * 97
		back := slices.Clone(words[at : at+1+at%512])
		p := sprites.Picture{Colours: make([]int, 512-n), Front: make([]bool, 300+n)}
		for x := range back {
			back[x] %= 256
			if back[x]%3 == 0 {
				back[x] = 0
			}
		}
		for x := range p.Colours {
			p.Colours[x] = words[at+x+5000] % 256
			if p.Colours[x]%4 == 0 {
				p.Colours[x] = 0
			}
		}
		for x := range p.Front {
			p.Front[x] = words[at+x+9000]%2 == 1
		}
		if got, want := Mix(back, p), wantMix(back, p); !slices.Equal(got, want) {
			t.Fatalf("%d: %v, want %v", n, got, want)
		}
	}
}

// TestMixKeepsNothing: P19.1 and rules 4 and 8, what is handed in is not changed, its spare room neither, and not kept; what is told is new memory.
func TestMixKeepsNothing(t *testing.T) {
	backRoom := []int{0, 5, 5, 0, 71, 72}
	colourRoom := []int{3, 3, 3, 0, 81, 82}
	frontRoom := []bool{false, false, true, true, true, false}
	back, p := backRoom[:4], sprites.Picture{Colours: colourRoom[:4], Front: frontRoom[:4]}
	told := Mix(back, p)
	other := Mix(back, p)
	other = other[:cap(other)]
	for x := range other {
		other[x] = -9
	}
	want := []int{259, 5, 259, 0}
	if !slices.Equal(told, want) || !slices.Equal(Mix(back, p), want) {
		t.Error("what was told is kept")
	}
	if !slices.Equal(backRoom, []int{0, 5, 5, 0, 71, 72}) || !slices.Equal(colourRoom, []int{3, 3, 3, 0, 81, 82}) ||
		!slices.Equal(frontRoom, []bool{false, false, true, true, true, false}) {
		t.Error("what was handed in is changed")
	}
	for x := range backRoom {
		backRoom[x], colourRoom[x], frontRoom[x] = 1, 200, true
	}
	if !slices.Equal(told, want) {
		t.Error("what was handed in is kept")
	}
	// Behind the lengths there would be sprites in front.
	short := sprites.Picture{Colours: colourRoom[:2], Front: frontRoom[:3]}
	if got := Mix(backRoom[:4], short); !slices.Equal(got, []int{456, 456, 1, 1}) {
		t.Errorf("what lies behind a length is read: %v", got)
	}
	// A back without a sprite is told in memory of its own, too.
	plain := []int{4, 4}
	got := Mix(plain, sprites.Picture{})
	got[0] = 8
	if plain[0] != 4 {
		t.Error("what is told is what was handed in")
	}
}

// scene is a background whose first cell has a pixel of colour 1 at 0, and none at 1, and so on, and a sprite of two pixels of colour 1 at 0 and 1, of palette 2.
func scene(t *testing.T, front bool) (Input, []int) {
	words := make([]int, size)
	for k := range 32 * 32 {
		words[k] = 0x3100
	}
	for row := range 8 {
		words[0x1000+row] = 0xaa
	}
	for row := range 16 {
		words[0x2000+row] = 0xc000
	}
	in := Input{Vram: loaded(t, words), Vce: numbered(), Wide: 4, Line: 10}
	in.Regs.R[5] = both
	in.Table[0], in.Table[1], in.Table[2], in.Table[3] = 74, 32, 0x100, 2
	if front {
		in.Table[3] |= 0x80
	}
	return in, words
}

// TestDrawWrittenOut: P19.2, a sprite in front of a background and behind it, with each of the bits alone, both and neither.
func TestDrawWrittenOut(t *testing.T) {
	for _, c := range []struct {
		control int
		front   bool
		want    []int
	}{
		{both, true, []int{289, 289, 49, 0}},
		{both, false, []int{49, 289, 49, 0}},
		{backOnly, true, []int{49, 0, 49, 0}},
		{backOnly, false, []int{49, 0, 49, 0}},
		{spritesOnly, true, []int{289, 289, 0, 0}},
		{spritesOnly, false, []int{289, 289, 0, 0}},
		{neither, true, []int{0, 0, 0, 0}},
		{neither, false, []int{0, 0, 0, 0}},
	} {
		in, words := scene(t, c.front)
		for _, others := range []int{0, 0x1f3f} { // the other bits of the control register, and none of them
			in.Regs.R[5] = c.control | others
			is(t, "as it is", in, c.want, false, false)
		}
		unchanged(t, in.Vram, words)
	}
}

// TestDrawOtherRegisters: P19.2, just registers 5 and 9 are asked, and not which one is chosen.
func TestDrawOtherRegisters(t *testing.T) {
	in, _ := scene(t, true)
	for k := range in.Regs.R {
		if k != 5 && k != 9 {
			in.Regs.R[k] = 65535
		}
	}
	in.Regs.Sel = 31
	is(t, "other registers", in, []int{289, 289, 49, 0}, false, false)
}

// TestDrawWide: P19.2, widths at their limits, beyond them, and at both ends of int, with each of the bits.
func TestDrawWide(t *testing.T) {
	words := sample()
	in := Input{Vram: loaded(t, words), Table: scattered(1), Vce: mingled(), Line: 30}
	for _, control := range shows {
		in.Regs.R[5] = control
		for _, wide := range []int{1, 2, 7, 8, 9, 256, 511, 512} {
			in.Wide = wide
			see(t, in)
			if got, _, _ := Draw(in); len(got) != wide {
				t.Errorf("%d wide: %d colours", wide, len(got))
			}
		}
		for _, wide := range []int{0, -1, 513, 514, 1024, -512, math.MaxInt, math.MaxInt - 1, math.MinInt, math.MinInt + 1} {
			in.Wide = wide
			if got, over, hit := Draw(in); len(got) != 0 || over || hit {
				t.Errorf("%d wide: %v %v %v", wide, got, over, hit)
			}
		}
	}
	unchanged(t, in.Vram, words)
}

// TestDrawNone: P19.2 and rule 1, of a memory that is nil, or that no call made, nothing is told, whatever is shown.
func TestDrawNone(t *testing.T) {
	plain := vram.Vram{}
	for _, v := range []*vram.Vram{nil, &plain} {
		for _, control := range shows {
			for _, wide := range []int{-1, 0, 1, 512, 513, math.MaxInt, math.MinInt} {
				in := Input{Vram: v, Table: scattered(1), Vce: mingled(), Line: 30, Wide: wide}
				in.Regs.R[5] = control
				if got, over, hit := Draw(in); len(got) != 0 || over || hit {
					t.Errorf("control %#x, %d wide: %v %v %v", control, wide, got, over, hit)
				}
			}
		}
	}
	if plain != (vram.Vram{}) {
		t.Error("a plain one is changed")
	}
}

// TestDrawMaps: P19.2, each map that there is, at all edges of X and Y.
func TestDrawMaps(t *testing.T) {
	words := sample()
	in := Input{Vram: loaded(t, words), Table: scattered(2), Vce: mingled(), Line: 40, Wide: 20}
	for size := range 8 {
		in.Regs.R[9] = size<<4 | 0x8f // its other bits tell nothing of the map
		for _, control := range []int{backOnly, both} {
			in.Regs.R[5] = control
			for _, x := range edges {
				for _, y := range edges {
					in.X, in.Y = x, y
					see(t, in)
				}
			}
		}
	}
	unchanged(t, in.Vram, words)
}

// TestDrawMapsWrittenOut: P19.2, one pixel at the last place of each map is seen at 0 where X and Y are its ends, and just there.
func TestDrawMapsWrittenOut(t *testing.T) {
	for size, m := range [][2]int{{32, 32}, {64, 32}, {128, 32}, {128, 32}, {32, 64}, {64, 64}, {128, 64}, {128, 64}} {
		wide, high := m[0], m[1]
		v := vram.New()
		for k := range wide * high {
			v.Poke(k, 0x7f0)
		}
		v.Poke(wide*high-1, 0x57f1)
		v.Poke(0x7f17, 1)
		in := Input{Vram: v, Vce: numbered(), Wide: 3}
		in.Regs.R[5], in.Regs.R[9] = both, size<<4
		in.X, in.Y = 8*wide-1, 8*high-1
		is(t, "at the map's end", in, []int{81, 0, 0}, false, false)
		in.X--
		is(t, "one ahead", in, []int{0, 81, 0}, false, false)
		in.X, in.Y = -1, -1
		is(t, "below 0", in, []int{81, 0, 0}, false, false)
		in.X, in.Y = 65535, 65535
		is(t, "at a word's end", in, []int{81, 0, 0}, false, false)
		in.X, in.Y = math.MaxInt, math.MaxInt
		is(t, "at int's end", in, []int{81, 0, 0}, false, false)
		in.X, in.Y = math.MinInt, math.MinInt
		is(t, "at int's other end", in, []int{0, 0, 0}, false, false)
		in.X, in.Y = 8*wide-1, 8*high
		is(t, "one below", in, []int{0, 0, 0}, false, false)
		in.X, in.Y = 8*wide-1, 8*high-2
		is(t, "one above", in, []int{0, 0, 0}, false, false)
	}
}

// TestDrawLineIsOfSprites: P19.2, Line moves no background, and X and Y no sprites.
func TestDrawLineIsOfSprites(t *testing.T) {
	in, _ := scene(t, true)
	in.Vram.Poke(0x1003, 0x55) // of the map's row 3, and of none else
	in.Regs.R[5] = backOnly
	for _, line := range edges {
		in.Line = line
		is(t, "the background", in, []int{49, 0, 49, 0}, false, false)
	}
	in.Y = 3
	is(t, "the background, three rows down", in, []int{0, 49, 0, 49}, false, false)
	in.Line, in.Regs.R[5] = 10, spritesOnly
	for _, x := range edges {
		in.X, in.Y = x, x/3
		is(t, "the sprites", in, []int{289, 289, 0, 0}, false, false)
	}
}

// TestDrawSpriteLines: P19.2, a sprite's first and last line, one above and one below them, of each height, and lines that no sprite is on.
func TestDrawSpriteLines(t *testing.T) {
	for tall, high := range []int{16, 32, 64, 64} {
		for _, control := range shows {
			v := vram.New()
			for k := range 8 * 64 {
				v.Poke(0x2000+k, 0x8000)
			}
			in := Input{Vram: v, Vce: numbered(), Wide: 2}
			in.Regs.R[5] = control
			for k := range 64 {
				in.Table[4*k] = 1000 // so that at lines above the picture there are not too many
			}
			in.Table[0], in.Table[1], in.Table[2], in.Table[3] = 64+20, 32, 0x100, 0x85|tall<<12
			on, off := []int{0, 0}, []int{0, 0}
			if control&spritesOnly != 0 {
				on[0] = 256 + 5*16 + 15
			}
			for line, want := range map[int][]int{19: off, 20: on, 21: on, 20 + high - 1: on, 20 + high: off} {
				in.Line = line
				is(t, "at a sprite's ends", in, want, false, false)
			}
			for _, line := range []int{-1, -20, -44, -45, -64, -65, 0, 1023, 1024, 1044, 65535, 65556, math.MaxInt, math.MaxInt - 20, math.MinInt, math.MinInt + 20} {
				in.Line = line
				is(t, "far from it", in, off, false, false)
			}
		}
	}
}

// TestDrawLinesBelowZero: P19.2, a sprite that is above the picture is drawn at lines below 0.
func TestDrawLinesBelowZero(t *testing.T) {
	in, _ := scene(t, true)
	in.Table[0] = 44
	for line, want := range map[int][]int{-21: {49, 0, 49, 0}, -20: {289, 289, 49, 0}, -5: {289, 289, 49, 0}, -4: {49, 0, 49, 0}} {
		in.Line = line
		is(t, "below 0", in, want, false, false)
	}
}

// TestDrawOverAndHit: P19.2, too many sprites and a touch are told where bit 6 is set, and only there; bit 7 tells nothing of it.
func TestDrawOverAndHit(t *testing.T) {
	for _, touching := range []bool{false, true} {
		for _, count := range []int{1, 2, 16, 17, 64} {
			in, _ := scene(t, true)
			for k := range count {
				copy(in.Table[4*k:], in.Table[:4])
				if !touching {
					in.Table[4*k+1] = 32 + 16*k
				}
			}
			for _, control := range shows {
				in.Regs.R[5] = control
				shown := control&spritesOnly != 0
				_, over, hit := Draw(in)
				if over != (shown && count > 16) || hit != (shown && touching && count > 1) {
					t.Errorf("%d sprites, touching %v, control %#x: %v %v", count, touching, control, over, hit)
				}
				in.Line = 9
				if _, over, hit := Draw(in); over || hit {
					t.Error("told at a line without sprites")
				}
				in.Line = 10
			}
		}
	}
}

// TestDrawColours: P19.2, the colours that are shown are those of the numbers: 0 and 255 of the background, 511 of a sprite; 256 is of none.
func TestDrawColours(t *testing.T) {
	words := make([]int, size)
	words[0] = 0xf100 // palette 15, its pixels lie from 0x1000 on
	words[0x1000], words[0x1008] = 0x8080, 0x8080
	words[0x2000], words[0x2010], words[0x2020], words[0x2030] = 0x4000, 0x4000, 0x4000, 0x4000
	in := Input{Vram: loaded(t, words), Wide: 3}
	in.Regs.R[5] = both
	in.Table[0], in.Table[1], in.Table[2], in.Table[3] = 64, 32, 0x100, 15
	for _, c := range []struct{ at, colour, grey int }{{0, 511, 7 * 73}, {255, 511, 7 * 73}, {511, 511, 7 * 73}, {0, 0x1c0, 4 * 73}, {255, 0x38, 2 * 73}, {511, 7, 73}, {256, 511, 511}} {
		in.Vce = vce.Vce{}
		in.Vce.Table[c.at] = c.colour
		want, grey := []int{0, 0, 0}, []int{0, 0, 0}
		switch c.at {
		case 0:
			want[2], grey[2] = c.colour, c.grey
		case 255:
			want[0], grey[0] = c.colour, c.grey
		case 511:
			want[1], grey[1] = c.colour, c.grey
		}
		is(t, "a colour", in, want, false, false)
		in.Vce.Control = 0x80
		is(t, "a grey", in, grey, false, false)
	}
	in.Vce = numbered()
	is(t, "all", in, []int{255, 511, 0}, false, false)
	for k := range in.Vce.Table {
		in.Vce.Table[k] += 512 * (k - 200)
	}
	is(t, "colours beyond nine bits", in, []int{255, 511, 0}, false, false)
	unchanged(t, in.Vram, words)
}

// TestDrawMany: P19.2, memories and tables without a pattern, at many lines and places, of all widths.
func TestDrawMany(t *testing.T) {
	overs, hits := 0, 0
	for _, words := range [][]int{sample(), thin()} {
		in := Input{Vram: loaded(t, words), Vce: mingled()}
		for n := range 40 {
			in.Table = scattered(uint32(n))
			in.Regs.R[9] = n << 4 & 0x70
			in.Vce.Control = n * 5 % 256
			for line := -25; line < 90; line += 7 {
				in.X, in.Y, in.Line = n*line*31, 100*n-line, line
				in.Wide = 1 + (n*53+line*line)%512
				for _, control := range shows {
					in.Regs.R[5] = control
					see(t, in)
				}
				_, over, hit := Draw(in)
				if over {
					overs++
				}
				if hit {
					hits++
				}
			}
		}
		unchanged(t, in.Vram, words)
	}
	if overs < 20 || hits < 20 {
		t.Errorf("too few of them: %d %d", overs, hits)
	}
}

// TestDrawKeepsNothing: P19.2 and rule 4, a line is new memory, its spare room too, and no later call or word changes it.
func TestDrawKeepsNothing(t *testing.T) {
	words := sample()
	for _, control := range shows {
		in := Input{Vram: loaded(t, words), Table: scattered(3), Vce: mingled(), Line: 30, Wide: 300}
		in.Regs.R[5] = control
		before := in
		told, over, hit := Draw(in)
		want := slices.Clone(told)
		other, _, _ := Draw(in)
		other = other[:cap(other)]
		for x := range other {
			other[x] = -9
		}
		again, overAgain, hitAgain := Draw(in)
		if !slices.Equal(told, want) || !slices.Equal(again, want) || over != overAgain || hit != hitAgain {
			t.Errorf("control %#x: what was told is kept", control)
		}
		if in != before {
			t.Error("what was handed in is changed")
		}
		unchanged(t, in.Vram, words)
		later := in
		later.X, later.Line, later.Wide = 55, 31, 512
		Draw(later)
		for k := range size {
			in.Vram.Poke(k, 65535-words[k])
		}
		if !slices.Equal(told, want) {
			t.Errorf("control %#x: later calls and words changed it", control)
		}
		see(t, in)
	}
}

// TestNeitherBit: P19.3, where neither bit is set all is colour 0: of colours that are all alike, and of such as are not.
func TestNeitherBit(t *testing.T) {
	alike := vce.Vce{}
	for k := range alike.Table {
		alike.Table[k] = 300
	}
	for _, c := range []struct {
		colours vce.Vce
		want    int
	}{{alike, 300}, {numbered(), 0}, {mingled(), 101}, {vce.Vce{}, 0}} {
		for _, words := range [][]int{sample(), make([]int, size)} {
			in := Input{Vram: loaded(t, words), Table: scattered(4), Vce: c.colours}
			for _, others := range []int{0, 0x1f3f} {
				in.Regs.R[5] = others
				for _, wide := range []int{1, 8, 256, 512} {
					for line := -5; line < 70; line += 5 {
						in.Wide, in.Line, in.X, in.Y = wide, line, line*7, line*9
						is(t, "neither", in, slices.Repeat([]int{c.want}, wide), false, false)
					}
				}
			}
		}
	}
}

// TestNumberedTellsMix: P19.3, with colours that are their numbers Draw tells Mix of the background and the sprites.
func TestNumberedTellsMix(t *testing.T) {
	for _, words := range [][]int{sample(), thin()} {
		in := Input{Vram: loaded(t, words), Vce: numbered()}
		for n := range 30 {
			in.Table = scattered(uint32(n + 100))
			in.Regs.R[9] = n << 4 & 0x70
			for line := -20; line < 80; line += 9 {
				in.X, in.Y, in.Line, in.Wide = n*line, n-line, line, 1+(n*line*line+511)%512
				for _, control := range shows {
					in.Regs.R[5] = control
					back := make([]int, in.Wide)
					if control&backOnly != 0 {
						wide, high := regs.Map(in.Regs)
						back = tiles.Line(in.Vram, tiles.View{Wide: wide, High: high, X: in.X, Y: in.Y}, 0, in.Wide)
					}
					p, over, hit := sprites.Picture{}, false, false
					if control&spritesOnly != 0 {
						p, over, hit = sprites.Line(in.Vram, in.Table, line, in.Wide)
					}
					is(t, "numbered", in, Mix(back, p), over, hit)
				}
			}
		}
	}
}
