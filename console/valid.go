package console

import (
	"phosphor/api"
	"phosphor/bus"
	"phosphor/cpu"
	"phosphor/mpr"
	"phosphor/psg"
	"phosphor/regs"
	"phosphor/timer"
	"phosphor/timing"
	"phosphor/vce"
)

// The greatest of each number that may be; the least is 0.
const (
	mostByte   = 1<<8 - 1
	mostWord   = 1<<16 - 1
	mostWait   = 1<<24 - 1
	mostLatch  = 3
	mostStatus = 1<<6 - 1
	mostColour = 1<<9 - 1 // and the greatest place of one
	mostLines  = 1<<3 - 1 // of interrupts
	mostIndex  = api.Pads
)

// The bounds of a geometry that are not others' too.
const (
	fewestLines = 262
	leastWidth  = 8
	leastTop    = 3
)

// Valid tells whether a console is as one may be.
func Valid(c *Console) bool {
	return !c.missing() &&
		isCore(c.Core) &&
		isGeometry(c.Geometry) &&
		upTo(timing.Frame(c.Geometry)-1, c.Tick) &&
		upTo(mostWait, c.Wait) &&
		upTo(mostWord, c.Back) &&
		isMachine(c.Bus)
}

// isMade tells whether there is a machine, and one that a call made: just a memory that is none has not even one word to tell.
func isMade(b *bus.Bus) bool {
	return b != nil && b.Card.Pages() > 0 && len(b.Vram.Words(0, 1)) > 0
}

// upTo tells whether each number is from 0 to most.
func upTo(most int, numbers ...int) bool {
	for _, n := range numbers {
		if n < 0 || n > most {
			return false
		}
	}
	return true
}

func isCore(c cpu.Core) bool {
	r := c.R
	return upTo(mostByte, r.A, r.X, r.Y, r.S, r.P, c.Last) && upTo(mostWord, r.PC)
}

// isGeometry asks for the lines first, since what is reckoned of others could leave int's range.
func isGeometry(g timing.Geometry) bool {
	return (g.Lines == fewestLines || g.Lines == api.MaxLines) &&
		g.Width >= leastWidth && g.Width <= api.MaxWidth &&
		g.Top >= leastTop && g.Top <= g.Bottom && g.Bottom <= g.Lines &&
		g.Blank == min(g.Bottom, g.Lines-1)
}

// isMachine is asked of a machine that is made.
func isMachine(b *bus.Bus) bool {
	return upTo(mostLatch, b.Latch) &&
		upTo(mostByte, b.Hold) &&
		upTo(mostLines, b.Irq.Mask, b.Irq.Lines) &&
		b.Lag == 0 &&
		mpr.Valid(b.File) &&
		timer.Valid(b.Timer) &&
		psg.Valid(b.Psg) &&
		isPicture(&b.Video) &&
		isPalette(&b.Vce) &&
		isPort(b)
}

func isPicture(v *bus.Video) bool {
	return regs.Valid(v.Regs) && upTo(mostStatus, v.Status) && upTo(mostWord, v.Table[:]...)
}

func isPalette(v *vce.Vce) bool {
	return upTo(mostByte, v.Control) && upTo(mostColour, v.Addr) && upTo(mostColour, v.Table[:]...)
}

func isPort(b *bus.Bus) bool {
	for _, one := range b.Pads {
		if !upTo(mostWord, one.Keys) {
			return false
		}
	}
	return upTo(mostIndex, b.Port.Index)
}
