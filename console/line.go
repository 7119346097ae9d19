package console

import (
	"phosphor/bits"
	"phosphor/bus"
	"phosphor/dma"
	"phosphor/line"
	"phosphor/regs"
	"phosphor/timing"
)

// The picture's registers that a frame hangs on, by their numbers.
const (
	backX       = 7
	backY       = 8
	lineWidth   = 11
	linesAbove  = 12
	linesShown  = 13
	linesBelow  = 14
	moveControl = 15
	spriteTable = 19
)

// The bits of the control register by which what is told is an interrupt.
const (
	hitTells    = 0
	overTells   = 1
	rasterTells = 2
	blankTells  = 3
)

// The bits of moveControl that are about the sprites' table: whether it is an interrupt that it was taken, and whether it is taken behind each picture.
const (
	takenTells = 0
	takeEach   = 4
)

// beginLine does all of a line at its first tick: what the processor changes later is seen from the next one on.
func (c *Console) beginLine(number int, drawn func(colours []int)) {
	if n := timing.Shown(c.Geometry, number); n >= 0 {
		c.moveBack(n)
		c.show(n, drawn)
	}
	if number == c.Geometry.Blank {
		endPicture(c.Bus)
	}
}

// moveBack goes on to the background's next line, unless the picture begins, or a program moved the background.
func (c *Console) moveBack(n int) {
	if n == 0 || c.Bus.Moved {
		c.Back = c.Bus.Regs.R[backY]
	} else {
		c.Back = bits.Word(c.Back + 1)
	}
	c.Bus.Moved = false
}

func (c *Console) show(n int, drawn func(colours []int)) {
	b := c.Bus
	if regs.Raster(b.Regs, n) {
		tell(b, bus.Raster, rasterTells)
	}
	colours, over, hit := line.Draw(line.Input{
		Vram:  b.Vram,
		Regs:  b.Regs,
		Table: b.Table,
		Vce:   b.Vce,
		X:     b.Regs.R[backX],
		Y:     c.Back,
		Line:  n,
		Wide:  c.Geometry.Width,
	})
	drawn(colours)
	if over {
		tell(b, bus.Over, overTells)
	}
	if hit {
		tell(b, bus.Hit, hitTells)
	}
}

// tell tells a bit of the status, which is an interrupt by a bit of the control register.
func tell(b *bus.Bus, bit, by int) { b.Tell(bit, regs.On(b.Regs, by)) }

// endPicture takes the sprites' table for the next picture, where that was asked for.
func endPicture(b *bus.Bus) {
	control := b.Regs.R[moveControl]
	if b.Wait || bits.Bit(control, takeEach) == 1 {
		b.Table = dma.Table(b.Vram, b.Regs.R[spriteTable])
		b.Wait = false
		b.Tell(bus.Taken, bits.Bit(control, takenTells) == 1)
	}
	tell(b, bus.Blank, blankTells)
}
