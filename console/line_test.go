package console

import (
	"fmt"
	"slices"
	"testing"

	"phosphor/api"
	"phosphor/bus"
	"phosphor/irq"
	"phosphor/line"
	"phosphor/timing"
	"phosphor/vram"
)

// atLine is a console at the first tick of a line, asleep.
func atLine(t testing.TB, number int) *Console {
	x := rich(t)
	x.Tick = number * 1365
	x.Bus.Status = 0
	return x
}

// TestBack: the line: Back is register 8 at the first line of the picture, and where the background was moved; else 1 more, round at 65536; where no line is shown it stays, and Moved too.
func TestBack(t *testing.T) {
	for _, number := range []int{1, 3, 19, 20, 21, 22, 100, 258, 259, 260, 261} {
		for _, moved := range []bool{false, true} {
			for _, back := range []int{0, 1, 35, 511, 512, 65534, 65535} {
				for _, register := range []int{0, 6, 0x1ff} {
					x := atLine(t, number)
					x.Back, x.Bus.Moved, x.Bus.Regs.R[8] = back, moved, register
					f := x.Run(1)
					isShown := number >= 20 && number < 260
					want := back
					if isShown {
						want = (back + 1) % 65536
					}
					if isShown && (moved || number == 20) {
						want = register
					}
					if x.Back != want || x.Bus.Moved != (moved && !isShown) || (len(f.Lines) == 1) != isShown {
						t.Errorf("line %d, Back %d, register %d, %v: %d, want %d, Moved %v, %d lines", number, back, register, moved, x.Back, want, x.Bus.Moved, len(f.Lines))
					}
					if x.Bus.Regs.R[8] != register {
						t.Errorf("register 8 is %d", x.Bus.Regs.R[8])
					}
				}
			}
		}
	}
}

// TestBackDrawn: the line, the colours are of Back as it is behind the move, not ahead of it.
func TestBackDrawn(t *testing.T) {
	x := atLine(t, 30)
	x.Back = 99
	f := x.Run(1)
	want, _, _ := line.Draw(drawing(x, 10, 100))
	other, _, _ := line.Draw(drawing(x, 10, 99))
	if len(f.Lines) != 1 || !slices.Equal(f.Lines[0], want) || slices.Equal(want, other) {
		t.Errorf("another line is drawn")
	}
}

// drawing is what a line is made of.
func drawing(x *Console, n, y int) line.Input {
	b := x.Bus
	return line.Input{Vram: b.Vram, Regs: b.Regs, Table: b.Table, Vce: b.Vce, X: b.Regs.R[7], Y: y, Line: n, Wide: x.Geometry.Width}
}

// TestDraw: the line, its colours are those of line.Draw: by the line of the picture, the width, both ways of the background, the table and the colours.
func TestDraw(t *testing.T) {
	for _, number := range []int{20, 21, 57, 259} {
		for _, width := range []int{8, 9, 255, 256, 341, 512} {
			for _, control := range []int{0, 0x40, 0x80, 0xc0} {
				x := atLine(t, number)
				x.Geometry.Width = width
				x.Bus.Regs.R[5], x.Bus.Regs.R[7] = control, width%100
				for k := range x.Bus.Table {
					x.Bus.Table[k] = []int{64 + k*2, 32 + k*3, 0x123 + k*6, 0x3083 + k}[k%4] % 65536
				}
				y := 36
				if number == 20 {
					y = 6
				}
				want, _, _ := line.Draw(drawing(x, number-20, y))
				f := x.Run(1)
				if len(f.Lines) != 1 || !slices.Equal(f.Lines[0], want) || len(want) != width {
					t.Errorf("line %d, width %d, control %x: another line", number, width, control)
				}
			}
		}
	}
}

// plain is a console at the first tick of a line of the picture, of 16 colours that are their numbers, and of a memory of zeros, so that what is drawn can be told by hand.
func plain(t testing.TB, n int) *Console {
	x := atLine(t, 20+n)
	x.Bus.Vram = vram.New()
	x.Bus.Regs.R = [20]int{5: 0xc0}
	x.Bus.Table = [256]int{}
	x.Geometry.Width = 16
	for k := range x.Bus.Vce.Table {
		x.Bus.Vce.Table[k] = k
	}
	return x
}

// TestDrawByHand: the line, a pixel of the background, moved both ways, and one of a sprite.
func TestDrawByHand(t *testing.T) {
	x := plain(t, 7)
	x.Bus.Vram.Poke(0, 0x3010)        // the map's first cell: palette 3, at 256
	x.Bus.Vram.Poke(0x100+5, 0x80)    // the first pixel of its sixth row: colour 1
	x.Bus.Vram.Poke(64*8+2, 0x8000)   // cell 8 of the sprites, its third row: the first pixel, colour 1
	x.Bus.Regs.R[7], x.Back = 1020, 4 // four pixels ahead of the map's side, its line 5
	copy(x.Bus.Table[:], []int{64 + 5, 32 + 9, 16, 0x82})
	f := x.Run(1)
	want := make([]int, 16)
	want[4], want[9] = 3*16+1, 256+2*16+1
	if len(f.Lines) != 1 || !slices.Equal(f.Lines[0], want) {
		t.Errorf("%v, want %v", f.Lines, want)
	}
}

// TestTold: the line, Raster, Over and Hit are told where they are, each an interrupt by its bit of the control register.
func TestTold(t *testing.T) {
	for what := range 8 {
		for control := range 32 {
			for _, before := range []int{0, 32, 63} {
				x := plain(t, 7)
				b := x.Bus
				b.Regs.R[5] |= control
				b.Status = before
				want, may := before, false
				if what&1 != 0 {
					b.Regs.R[6] = 64 + 7
					want |= bus.Raster
					may = may || control&4 != 0
				}
				if what&2 != 0 {
					many(b)
					want |= bus.Over
					may = may || control&2 != 0
				}
				if what&4 != 0 {
					touching(b)
					want |= bus.Hit
					may = may || control&1 != 0
				}
				x.Run(1)
				lines := map[bool]int{true: irq.Irq1, false: 0}[may]
				if b.Status != want || b.Irq.Lines != lines {
					t.Errorf("%d, control %x: Status %d, want %d, %v", what, control, b.Status, want, b.Irq)
				}
			}
		}
	}
}

// many puts 17 sprites on the line 7, of which no pixel is seen.
func many(b *bus.Bus) {
	for k := range 17 {
		b.Table[4*k], b.Table[4*k+1] = 64+7, 32
	}
}

// touching gives the first two sprites a pixel at the same place of the line 7.
func touching(b *bus.Bus) {
	b.Vram.Poke(64*8, 0x8000)
	for k := range 2 {
		copy(b.Table[4*k:], []int{64 + 7, 32, 16, 0})
	}
}

// TestRaster: the line, register 6 tells lines of the picture from 64 on; also the first one and the last; not lines that are not shown.
func TestRaster(t *testing.T) {
	for _, register := range []int{0, 1, 63, 64, 65, 100, 302, 303, 304, 0x3ff} {
		x := rich(t)
		x.Bus.Regs.R[5], x.Bus.Regs.R[6] = 4, register
		for number := range 262 {
			x.Tick, x.Bus.Status, x.Bus.Irq.Lines = number*1365, 0, 0
			x.Geometry = timing.Geometry{Width: 8, Top: 20, Bottom: 260, Blank: 260, Lines: 262}
			x.Run(1)
			isTold := register >= 64 && number-20 == register-64 && number >= 20 && number < 260
			if (x.Bus.Status&bus.Raster != 0) != isTold || (x.Bus.Irq.Lines == irq.Irq1) != isTold {
				t.Errorf("register %d, line %d: Status %d, %v", register, number, x.Bus.Status, x.Bus.Irq)
			}
		}
	}
}

// TestBlank: the line whose number is Blank: the table is taken where it is waited for, or each time; and what is told, and may be an interrupt.
func TestBlank(t *testing.T) {
	for _, waits := range []bool{false, true} {
		for move := range 32 {
			for control := range 16 {
				for _, from := range []int{0, 0x1f00, 0x7fff, 0xfff0} {
					x := atLine(t, 260)
					b := x.Bus
					b.Wait, b.Moved = waits, true
					b.Regs.R[5], b.Regs.R[15], b.Regs.R[19] = control|0xc0, move, from
					want := twin(x)
					status, may := 32, control/8 == 1
					if waits || move >= 16 {
						for k := range want.Bus.Table {
							want.Bus.Table[k] = b.Vram.Word((from + k) % 65536)
						}
						status, may = 40, may || move%2 == 1
					}
					want.Bus.Wait, want.Bus.Status = false, status
					if may {
						want.Bus.Irq.Lines = irq.Irq1
					}
					want.Tick, want.Wait, want.Bus.Timer.Pre = want.Tick+1, asleep-1, 101
					f := x.Run(1)
					expectNothing(t, f, "Blank")
					expect(t, x, want, fmt.Sprintf("Blank, %v, register 15 %x, control %x, from %x", waits, move, control, from))
				}
			}
		}
	}
}

// TestBlankAlone: at no other line a table is taken, or Blank told.
func TestBlankAlone(t *testing.T) {
	x := rich(t)
	x.Bus.Regs.R[5], x.Bus.Regs.R[15] = 8, 0x11
	for number := 1; number < 262; number++ {
		x.Tick, x.Bus.Status, x.Bus.Irq.Lines, x.Bus.Wait = number*1365, 0, 0, true
		before := x.Bus.Table
		x.Run(1)
		if isBlank := number == 260; (x.Bus.Status != 0) != isBlank || (x.Bus.Irq.Lines != 0) != isBlank || x.Bus.Wait == isBlank || (x.Bus.Table != before) != isBlank {
			t.Errorf("line %d: Status %d, %v, Wait %v", number, x.Bus.Status, x.Bus.Irq, x.Bus.Wait)
		}
	}
}

// TestBlankShown: where Blank is a line that is shown, it is drawn with the table that there was, and what is told of both is told.
func TestBlankShown(t *testing.T) {
	for _, lines := range []int{262, 263} {
		for control := range 16 {
			x := plain(t, 0)
			b := x.Bus
			x.Geometry = timing.Geometry{Width: 16, Top: lines - 8, Bottom: lines, Blank: lines - 1, Lines: lines}
			x.Tick = (lines - 1) * 1365
			touching(b)
			many(b)
			touching(b)
			b.Regs.R[5], b.Regs.R[6], b.Regs.R[19] = 0xc0+control, 64+7, 0x4000
			b.Wait = true
			for at := range 256 {
				b.Vram.Poke(0x4000+at, at+1000)
			}
			f := x.Run(1)
			want := make([]int, 16)
			want[0] = 256 + 1
			if len(f.Lines) != 1 || !slices.Equal(f.Lines[0], want) {
				t.Errorf("%v is drawn", f.Lines)
			}
			if b.Status != bus.Hit|bus.Over|bus.Raster|bus.Taken|bus.Blank || b.Table[0] != 1000 || b.Table[255] != 1255 || b.Wait || (b.Irq.Lines == irq.Irq1) != (control != 0) {
				t.Errorf("%d lines, control %d: Status %d, Table %d, Wait %v, %v", lines, control, b.Status, b.Table[0], b.Wait, b.Irq)
			}
		}
	}
}

// TestBlankEmpty: where no line is shown, Blank is the frame's last line.
func TestBlankEmpty(t *testing.T) {
	x := empty().console(t)
	for range 2 {
		x.RunFrame()
	}
	x.Bus.Status, x.Bus.Irq.Lines = 0, 0
	for k := range 263 {
		f := x.Run(1365)
		if len(f.Lines) != 0 || (x.Bus.Status == bus.Blank) != (k == 262) {
			t.Errorf("line %d: %d lines, Status %d", k, len(f.Lines), x.Bus.Status)
		}
	}
}

// TestLineTick: P26.2 (b), all of a line comes at its first tick, and just there.
func TestLineTick(t *testing.T) {
	x := rich(t)
	x.Tick = 19 * 1365
	for tick := range 3 * 1365 {
		f := x.Run(1)
		if want := tick == 1365 || tick == 2730; (len(f.Lines) == 1) != want || len(f.Lines) > 1 {
			t.Errorf("tick %d: %d lines", tick, len(f.Lines))
		}
	}
}

// TestLineAhead: P26.2 (b) and (c), where a line begins and a step at one tick, the line comes first: the write is seen in the next one; and an interrupt that the line tells is taken there.
func TestLineAhead(t *testing.T) {
	x := waking(t, true, store(0x400, 0x80)...)
	x.Tick, x.Wait = 50*1365-6, 0 // STA, which turns all colours grey, begins with the line
	x.Bus.Regs.R[5] = 0xc0
	m := modelOf(x)
	f := x.Run(1365 + 7)
	expectFrame(t, f, m.run(1365+7), "two lines")
	if len(f.Lines) != 2 || isGrey(f.Lines[0]) || !isGrey(f.Lines[1]) {
		t.Errorf("%d lines, grey or not", len(f.Lines))
	}
	x = waking(t, true, 0xea, 0xea)
	x.Tick, x.Bus.Regs.R[5], x.Bus.Regs.R[6] = 50*1365-6, 4, 64+30
	x.Run(7)
	if x.Core.R.PC != irq1At || x.Core.R.P&api.FlagI == 0 || x.Wait != 23 {
		t.Errorf("PC %x, Wait %d", x.Core.R.PC, x.Wait)
	}
}

func isGrey(colours []int) bool {
	for _, c := range colours {
		if c%73 != 0 {
			return false
		}
	}
	return true
}
