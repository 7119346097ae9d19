package timing

import (
	"math"
	"testing"
)

const lineTicks = 1365

// values are registers at and beside the ends of the bits that are taken of each, of a word, below 0, and at both ends of int.
var values = []int{
	0, 1, 2, 5, 30, 31, 32, 33, 62, 63, 64, 65, 126, 127, 128, 129, 239, 255, 256, 257, 259, 510, 511, 512, 513, 1023, 1024,
	0xf02, 0x1f1f, 0x7fff, 0x8000, 0xe01f, 0xff00, 0xff1f, 65534, 65535, 65536, 65537, 65536 + 511, 65536 + 512, 131071, 131072, 1 << 32,
	-1, -2, -31, -32, -33, -127, -128, -129, -255, -256, -257, -511, -512, -513, -65535, -65536, -65537,
	math.MaxInt, math.MaxInt - 31, math.MaxInt - 127, math.MaxInt - 255, math.MaxInt - 511, math.MaxInt - 65535,
	math.MinInt, math.MinInt + 1, math.MinInt + 31, math.MinInt + 127, math.MinInt + 128, math.MinInt + 255, math.MinInt + 511, math.MinInt + 65535,
}

// dots and numbersOfLines are within their bounds, beside them, and far beyond them.
var (
	dots           = []int{2, 3, 4, 1, 0, -1, -4, 5, 6, 256, 65536, 65538, math.MaxInt, math.MinInt, math.MinInt + 3}
	numbersOfLines = []int{262, 263, 261, 264, 0, 1, -1, -262, 525, 65536 + 262, math.MaxInt, math.MinInt, math.MinInt + 262}
)

// modulo is n modulo m, from 0 on: by division, where the package takes masks.
func modulo(n, m int) int { return (n%m + m) % m }

// nearer is the bound that a number is beyond, or the number.
func nearer(n, least, most int) int {
	if n < least {
		return least
	}
	if n > most {
		return most
	}
	return n
}

// model is P14.1, worked out by division and comparison alone.
func model(s Setup) Geometry {
	dot, g := nearer(s.Dot, 2, 4), Geometry{Lines: nearer(s.Lines, 262, 263)}
	g.Width = 8*modulo(s.Hdr, 128) + 8
	if g.Width > 512 {
		g.Width = 512
	}
	if g.Width > lineTicks/dot {
		g.Width = lineTicks / dot
	}
	g.Top = modulo(s.Vpr, 32) + modulo(s.Vpr, 65536)/256 + 3
	if g.Top > g.Lines {
		g.Top = g.Lines
	}
	g.Bottom = g.Top + modulo(s.Vdw, 512) + 1
	if g.Bottom > g.Lines {
		g.Bottom = g.Lines
	}
	g.Blank = g.Bottom
	if g.Blank == g.Lines {
		g.Blank--
	}
	return g
}

func seeOf(t *testing.T, s Setup, want Geometry) {
	t.Helper()
	if got := Of(s); got != want {
		t.Fatalf("Of(%+v) = %+v, want %+v", s, got, want)
	}
}

// TestOfTable: P14.1, written out.
func TestOfTable(t *testing.T) {
	for _, c := range []struct {
		s    Setup
		want Geometry
	}{
		{Setup{4, 262, 31, 0xf02, 239, 0}, Geometry{256, 20, 260, 260, 262}},
		{Setup{}, Geometry{8, 3, 4, 4, 262}},
		{Setup{3, 263, 42, 0x1105, 241, 9}, Geometry{344, 25, 263, 262, 263}},
		{Setup{2, 262, 63, 0xf02, 239, 0}, Geometry{512, 20, 260, 260, 262}},
		{Setup{9, 9, 127, 0xff1f, 511, 0}, Geometry{341, 262, 262, 261, 262}},
		{Setup{9, 999, 127, 0xff1f, 511, 0}, Geometry{341, 263, 263, 262, 263}},
		{Setup{-1, -1, -1, -1, -1, -1}, Geometry{512, 262, 262, 261, 262}},
		{Setup{math.MaxInt, math.MaxInt, math.MaxInt, math.MaxInt, math.MaxInt, math.MaxInt}, Geometry{341, 263, 263, 262, 263}},
		{Setup{math.MinInt, math.MinInt, math.MinInt, math.MinInt, math.MinInt, math.MinInt}, Geometry{8, 3, 4, 4, 262}},
	} {
		seeOf(t, c.s, c.want)
	}
}

// TestOfDot: P14.1, Dot is kept from 2 to 4: told by the width that it bounds.
func TestOfDot(t *testing.T) {
	for dot, want := range map[int]int{
		1: 512, 2: 512, 3: 455, 4: 341, 5: 341, 6: 341, 0: 512, -1: 512, -3: 512, -4: 512,
		65535: 341, 65536: 341, 65539: 341, -65533: 512, math.MaxInt: 341, math.MinInt: 512, math.MinInt + 3: 512,
	} {
		seeOf(t, Setup{Dot: dot, Lines: 262, Hdr: 127}, Geometry{want, 3, 4, 4, 262})
	}
}

// TestOfWidth: P14.1, written out: widths that nothing bounds, that MaxWidth bounds, and that LineTicks / Dot does.
func TestOfWidth(t *testing.T) {
	for _, c := range []struct{ dot, hdr, want int }{
		{2, 0, 8}, {2, 1, 16}, {2, 31, 256}, {2, 32, 264}, {2, 62, 504}, {2, 63, 512}, {2, 64, 512}, {2, 84, 512}, {2, 126, 512}, {2, 127, 512},
		{3, 0, 8}, {3, 55, 448}, {3, 56, 455}, {3, 57, 455}, {3, 63, 455}, {3, 64, 455}, {3, 127, 455},
		{4, 0, 8}, {4, 31, 256}, {4, 41, 336}, {4, 42, 341}, {4, 43, 341}, {4, 63, 341}, {4, 127, 341},
		{4, 128, 8}, {4, 129, 16}, {4, 255, 341}, {4, 256, 8}, {4, 511, 341}, {4, 512, 8}, {2, 65535, 512}, {4, 65535, 341}, {4, 65536, 8}, {4, 65537, 16},
		{2, -1, 512}, {2, -97, 256}, {2, -128, 8}, {2, -129, 512}, {4, math.MaxInt, 341}, {4, math.MaxInt - 127, 8}, {4, math.MinInt, 8}, {4, math.MinInt + 31, 256},
	} {
		seeOf(t, Setup{Dot: c.dot, Lines: 262, Hdr: c.hdr}, Geometry{c.want, 3, 4, 4, 262})
	}
}

// TestOfLines: P14.1, Lines is the nearer bound, where it is beyond them, and bounds Top and Bottom.
func TestOfLines(t *testing.T) {
	for lines, want := range map[int]int{
		261: 262, 262: 262, 263: 263, 264: 263, 0: 262, 1: 262, -1: 262, -263: 262, 524: 263, 525: 263, 65536: 263, 65798: 263,
		math.MaxInt: 263, math.MaxInt - 1: 263, math.MinInt: 262, math.MinInt + 263: 262,
	} {
		seeOf(t, Setup{Dot: 4, Lines: lines}, Geometry{8, 3, 4, 4, want})
		seeOf(t, Setup{Dot: 4, Lines: lines, Vdw: 511}, Geometry{8, 3, want, want - 1, want})
		seeOf(t, Setup{Dot: 4, Lines: lines, Vpr: 0xffff}, Geometry{8, want, want, want - 1, want})
	}
}

// TestOfTop: P14.1, written out: both parts of Vpr, and Top one below Lines, just at it, and one beyond.
func TestOfTop(t *testing.T) {
	for _, c := range []struct{ lines, vpr, top int }{
		{262, 0, 3}, {262, 1, 4}, {262, 30, 33}, {262, 31, 34}, {262, 32, 3}, {262, 33, 4}, {262, 63, 34}, {262, 127, 34}, {262, 128, 3}, {262, 255, 34},
		{262, 256, 4}, {262, 257, 5}, {262, 511, 35}, {262, 512, 5}, {262, 0x0f02, 20}, {262, 0xff00, 258},
		{262, 0xff02, 260}, {262, 0xff03, 261}, {262, 0xff04, 262}, {262, 0xff05, 262}, {262, 0xff06, 262},
		{263, 0xff03, 261}, {263, 0xff04, 262}, {263, 0xff05, 263}, {263, 0xff06, 263}, {263, 0xff1f, 263},
		{262, 0xe41f, 262}, {262, 0xe31f, 261}, {262, 0xe51f, 262}, {263, 0xe41f, 262}, {263, 0xe51f, 263}, {263, 0xe61f, 263},
		{262, 65535, 262}, {263, 65535, 263}, {262, 65536, 3}, {262, 65537, 4}, {262, 65536 + 256, 4},
		{262, -1, 262}, {263, -1, 263}, {262, -65536, 3}, {262, -65535, 4}, {262, -65280, 4}, {262, -256, 258}, {262, math.MaxInt, 262}, {263, math.MaxInt, 263},
		{262, math.MaxInt - 65535, 3}, {262, math.MinInt, 3}, {262, math.MinInt + 31, 34}, {262, math.MinInt + 256, 4},
	} {
		bottom := c.top + 1
		if bottom > c.lines {
			bottom = c.lines
		}
		blank := bottom
		if blank == c.lines {
			blank = c.lines - 1
		}
		seeOf(t, Setup{Dot: 4, Lines: c.lines, Vpr: c.vpr}, Geometry{8, c.top, bottom, blank, c.lines})
	}
}

// TestOfBottom: P14.1, written out: Bottom one below Lines, just at it, and one beyond, and Blank with it.
func TestOfBottom(t *testing.T) {
	for _, c := range []struct{ lines, vpr, vdw, bottom, blank int }{
		{262, 0, 0, 4, 4}, {262, 0, 1, 5, 5}, {262, 0, 31, 35, 35}, {262, 0, 32, 36, 36}, {262, 0, 127, 131, 131}, {262, 0, 128, 132, 132}, {262, 0, 255, 259, 259}, {262, 0, 256, 260, 260},
		{262, 0, 257, 261, 261}, {262, 0, 258, 262, 261}, {262, 0, 259, 262, 261}, {263, 0, 257, 261, 261}, {263, 0, 258, 262, 262}, {263, 0, 259, 263, 262}, {263, 0, 260, 263, 262},
		{262, 0, 510, 262, 261}, {262, 0, 511, 262, 261}, {263, 0, 511, 263, 262}, {262, 0, 512, 4, 4}, {262, 0, 513, 5, 5}, {262, 0, 1024, 4, 4},
		{262, 0, 65535, 262, 261}, {262, 0, 65536, 4, 4}, {262, 0, 65537, 5, 5}, {262, 0, -1, 262, 261}, {262, 0, -512, 4, 4}, {262, 0, -511, 5, 5}, {262, 0, -257, 259, 259},
		{262, 0, math.MaxInt, 262, 261}, {263, 0, math.MaxInt, 263, 262}, {262, 0, math.MaxInt - 511, 4, 4}, {262, 0, math.MinInt, 4, 4}, {262, 0, math.MinInt + 255, 259, 259},
		{262, 0xf02, 239, 260, 260}, {262, 0xf02, 240, 261, 261}, {262, 0xf02, 241, 262, 261}, {262, 0xf02, 242, 262, 261}, {263, 0xf02, 241, 262, 262}, {263, 0xf02, 242, 263, 262}, {263, 0xf02, 243, 263, 262},
		{262, 0xff02, 0, 261, 261}, {262, 0xff03, 0, 262, 261}, {262, 0xff04, 0, 262, 261}, {263, 0xff03, 0, 262, 262}, {263, 0xff04, 0, 263, 262}, {263, 0xff05, 0, 263, 262},
	} {
		top := modulo(c.vpr, 32) + c.vpr/256 + 3
		seeOf(t, Setup{Dot: 4, Lines: c.lines, Vpr: c.vpr, Vdw: c.vdw}, Geometry{8, top, c.bottom, c.blank, c.lines})
	}
}

// TestOfVcr: P14.1, Vcr changes nothing.
func TestOfVcr(t *testing.T) {
	for _, s := range []Setup{{}, {4, 262, 31, 0xf02, 239, 0}, {2, 263, 127, 0xffff, 511, 0}, {3, 263, 40, 0x1002, 200, 0}} {
		want := model(s)
		for _, vcr := range values {
			s.Vcr = vcr
			seeOf(t, s, want)
		}
	}
}

// TestOfValues: P14.1, all values of the registers together, held against the model.
func TestOfValues(t *testing.T) {
	for _, hdr := range values {
		for _, vpr := range values {
			for _, vdw := range values {
				s := Setup{3, 263, hdr, vpr, vdw, vdw}
				seeOf(t, s, model(s))
			}
		}
	}
	for _, dot := range dots {
		for _, lines := range numbersOfLines {
			for n, a := range values {
				b, c := values[n*7%len(values)], values[n*11%len(values)]
				s := Setup{dot, lines, a, b, c, n}
				seeOf(t, s, model(s))
			}
		}
	}
}

// TestOfEachRegister: P14.1, each number that a register may have, and those beside them.
func TestOfEachRegister(t *testing.T) {
	for n := -66000; n < 132000; n++ {
		for _, s := range []Setup{{4, 262, n, 0, 0, 0}, {2, 263, n, 5, 5, 5}, {4, 262, 0, n, 0, 0}, {4, 263, 0, n, 0, 0}, {4, 262, 0, 0, n, 0}, {3, 263, 9, 0xf02, n, n}} {
			seeOf(t, s, model(s))
		}
	}
}

// TestLine: P14.2, at the edges of a line and at both ends of int.
func TestLine(t *testing.T) {
	for tick, want := range map[int][2]int{
		0: {0, 0}, 1: {0, 1}, 1364: {0, 1364}, 1365: {1, 0}, 1366: {1, 1}, 2729: {1, 1364}, 2730: {2, 0},
		262*1365 - 1: {261, 1364}, 262 * 1365: {262, 0}, 263*1365 - 1: {262, 1364}, 263 * 1365: {263, 0},
		-1: {0, 0}, -2: {0, 0}, -1364: {0, 0}, -1365: {0, 0}, -1366: {0, 0}, math.MinInt: {0, 0}, math.MinInt + 1: {0, 0},
		math.MaxInt: {6757049111248920, 7}, math.MaxInt - 1: {6757049111248920, 6}, math.MaxInt - 7: {6757049111248920, 0}, math.MaxInt - 8: {6757049111248919, 1364},
	} {
		line, within := Line(tick)
		if line != want[0] || within != want[1] {
			t.Errorf("Line(%d) = %d, %d, want %v", tick, line, within, want)
		}
	}
}

// TestLineBack: P14.2, line and tick in it lead back to the tick, also near the end of int.
func TestLineBack(t *testing.T) {
	ticks := []int{math.MaxInt, math.MaxInt - 1, math.MaxInt - 1364, math.MaxInt - 1365, math.MaxInt / 2, 1 << 40, 1<<31 - 1, 1 << 31}
	for tick := range 4 * lineTicks {
		ticks = append(ticks, tick, 263*lineTicks+tick)
	}
	for _, tick := range ticks {
		line, within := Line(tick)
		if line < 0 || within < 0 || within >= lineTicks || line > tick || tick-within != line*lineTicks {
			t.Fatalf("Line(%d) = %d, %d", tick, line, within)
		}
	}
}

// TestShown: P14.2, written out, also of a geometry where nothing is shown.
func TestShown(t *testing.T) {
	picture, whole, none := Geometry{256, 20, 260, 260, 262}, Geometry{8, 3, 263, 262, 263}, Geometry{8, 262, 262, 261, 262}
	for _, c := range []struct {
		g          Geometry
		line, want int
	}{
		{picture, 20, 0}, {picture, 21, 1}, {picture, 140, 120}, {picture, 259, 239},
		{picture, 19, -1}, {picture, 0, -1}, {picture, 260, -1}, {picture, 261, -1}, {picture, 262, -1}, {picture, -1, -1}, {picture, -20, -1},
		{picture, math.MaxInt, -1}, {picture, math.MinInt, -1}, {picture, math.MinInt + 20, -1}, {picture, 65536 + 20, -1},
		{whole, 2, -1}, {whole, 3, 0}, {whole, 261, 258}, {whole, 262, 259}, {whole, 263, -1}, {whole, -3, -1}, {whole, math.MaxInt, -1}, {whole, math.MinInt, -1},
		{none, 261, -1}, {none, 262, -1}, {none, 263, -1}, {none, 0, -1}, {none, -1, -1}, {none, math.MaxInt, -1}, {none, math.MinInt, -1},
		{Geometry{}, 0, -1}, {Geometry{}, -1, -1}, {Geometry{}, 1, -1},
		{Geometry{Top: 9, Bottom: 5}, 4, -1}, {Geometry{Top: 9, Bottom: 5}, 5, -1}, {Geometry{Top: 9, Bottom: 5}, 7, -1}, {Geometry{Top: 9, Bottom: 5}, 9, -1},
		{Geometry{Top: -5, Bottom: 5}, -6, -1}, {Geometry{Top: -5, Bottom: 5}, -5, 0}, {Geometry{Top: -5, Bottom: 5}, -1, 4}, {Geometry{Top: -5, Bottom: 5}, 4, 9}, {Geometry{Top: -5, Bottom: 5}, 5, -1},
		{Geometry{Top: math.MinInt, Bottom: math.MaxInt}, math.MinInt, 0}, {Geometry{Top: math.MinInt, Bottom: math.MaxInt}, -1, math.MaxInt}, {Geometry{Top: 0, Bottom: math.MaxInt}, math.MaxInt - 1, math.MaxInt - 1},
	} {
		if got := Shown(c.g, c.line); got != c.want {
			t.Errorf("Shown(%+v, %d) = %d, want %d", c.g, c.line, got, c.want)
		}
	}
}

// TestShownInOrder: P14.2, the lines of a frame count up from 0 where they are shown, and just there.
func TestShownInOrder(t *testing.T) {
	for _, s := range []Setup{{}, {4, 262, 31, 0xf02, 239, 0}, {2, 263, 63, 0, 511, 0}, {3, 262, 63, 0xff03, 511, 0}, {3, 263, 63, 0xffff, 511, 0}} {
		g, next := Of(s), 0
		for line := -300; line < 600; line++ {
			want := -1
			if line >= g.Top && line < g.Bottom {
				want = next
				next++
			}
			if got := Shown(g, line); got != want {
				t.Fatalf("Shown(%+v, %d) = %d, want %d", g, line, got, want)
			}
		}
		if next != g.Bottom-g.Top {
			t.Errorf("%+v shows %d lines", g, next)
		}
	}
}

// TestNext: P14.3, at the edges of a line and at both ends of int.
func TestNext(t *testing.T) {
	for tick, want := range map[int]int{
		0: 1365, 1: 1364, 2: 1363, 682: 683, 1363: 2, 1364: 1, 1365: 1365, 1366: 1364, 2729: 1, 2730: 1365, 262 * 1365: 1365, 263*1365 - 1: 1,
		-1: 1365, -2: 1365, -1364: 1365, -1365: 1365, -1366: 1365, math.MinInt: 1365, math.MinInt + 1: 1365,
		math.MaxInt: 1358, math.MaxInt - 1: 1359, math.MaxInt - 7: 1365, math.MaxInt - 8: 1,
	} {
		if got := Next(tick); got != want {
			t.Errorf("Next(%d) = %d, want %d", tick, got, want)
		}
	}
}

// TestNextIsLeast: P14.3, what is told leads to a multiple of LineTicks, and no less number above 0 does.
func TestNextIsLeast(t *testing.T) {
	ticks := []int{math.MaxInt, math.MaxInt - 1, math.MaxInt - 700, math.MaxInt - 1364, math.MaxInt - 1365, 1 << 40, 1<<31 - 1}
	for tick := range 2*lineTicks + 2 {
		ticks = append(ticks, tick, 260*lineTicks+tick)
	}
	for _, tick := range ticks {
		// The line's part alone is gone on from, for the sum could leave int's range.
		least := 1
		for (tick%lineTicks+least)%lineTicks != 0 {
			least++
		}
		if got := Next(tick); got != least {
			t.Fatalf("Next(%d) = %d, want %d", tick, got, least)
		}
	}
}

// TestFrame: P14.3, of 262 and of 263 lines, whatever the other numbers are.
func TestFrame(t *testing.T) {
	for _, c := range []struct {
		g    Geometry
		want int
	}{
		{Geometry{256, 20, 260, 260, 262}, 357630}, {Geometry{256, 20, 260, 260, 263}, 358995}, {Geometry{Lines: 262}, 357630}, {Geometry{Lines: 263}, 358995},
		{Geometry{512, 263, 263, 262, 263}, 358995}, {Geometry{}, 0}, {Geometry{8, 3, 4, 4, 0}, 0}, {Geometry{Lines: 1}, 1365}, {Geometry{Lines: -1}, -1365},
		{Of(Setup{Lines: 262}), 357630}, {Of(Setup{Lines: 263}), 358995}, {Of(Setup{}), 357630}, {Of(Setup{Lines: math.MaxInt}), 358995},
	} {
		if got := Frame(c.g); got != c.want {
			t.Errorf("Frame(%+v) = %d, want %d", c.g, got, c.want)
		}
	}
}

// seeBounds holds the geometry of a setup against each bound of P14.4.
func seeBounds(t *testing.T, s Setup) {
	t.Helper()
	g := Of(s)
	if g.Width < 8 || g.Width > 512 {
		t.Fatalf("Of(%+v) = %+v: the width", s, g)
	}
	if g.Width*nearer(s.Dot, 2, 4) > lineTicks {
		t.Fatalf("Of(%+v) = %+v: the pixels do not fit into a line", s, g)
	}
	if g.Lines != 262 && g.Lines != 263 {
		t.Fatalf("Of(%+v) = %+v: the lines", s, g)
	}
	if g.Top < 3 || g.Top > g.Bottom || g.Bottom > g.Lines {
		t.Fatalf("Of(%+v) = %+v: top and bottom", s, g)
	}
	if g.Blank < 0 || g.Blank >= g.Lines || g.Blank > g.Bottom || g.Blank < g.Bottom-1 {
		t.Fatalf("Of(%+v) = %+v: the display's end", s, g)
	}
}

// TestBounds: P14.4, geometries of registers of all kinds.
func TestBounds(t *testing.T) {
	for _, dot := range dots {
		for _, lines := range numbersOfLines {
			for n, a := range values {
				for m, b := range values {
					seeBounds(t, Setup{dot, lines, a, b, values[(n+m)%len(values)], b})
				}
			}
		}
	}
}

// TestBoundsEach: P14.4, each top with each number of lines that are shown, and each width.
func TestBoundsEach(t *testing.T) {
	for _, lines := range []int{262, 263} {
		for top := range 256 + 32 {
			vpr := top * 256
			if top > 255 {
				vpr = 0xff00 + top - 256
			}
			for vdw := range 512 {
				seeBounds(t, Setup{2 + vdw%3, lines, top, vpr, vdw, 0})
			}
		}
	}
	for dot := range 7 {
		for hdr := range 65536 {
			seeBounds(t, Setup{dot, 262, hdr, hdr, hdr, hdr})
		}
	}
}
