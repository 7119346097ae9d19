package state

import (
	"encoding/binary"
	"fmt"
	"hash/adler32"
	"testing"

	"phosphor/console"
)

// Where parts begin, by the chapter's order: 5 bytes, 1090 numbers, 32768 words, 8192 bytes, and the sum.
const (
	firstNumber = 5
	firstWord   = 4365
	firstRam    = 69901
	theSum      = 78093
	wholeSize   = 78097
)

// row is a number of a state, in the chapter's order: a bool, or a number with its bounds. Bits that a register may not have lie between these too.
type row struct {
	name        string
	n           *int
	truth       *bool
	least, most int
	fixed       bool // nothing else may stand there, as the others are
	masked      bool // it may have just the bits of most
	alike       bool // it is one of many alike
}

// may tells whether a number may stand there.
func (r row) may(n int) bool {
	if r.masked {
		return n&^r.most == 0
	}
	return n >= r.least && n <= r.most
}

func (r row) value() int {
	if r.truth == nil {
		return *r.n
	}
	if *r.truth {
		return 1
	}
	return 0
}

func (r row) put(n int) {
	if r.truth != nil {
		*r.truth = n == 1
		return
	}
	*r.n = n
}

// order tells all numbers of a console, as the chapter writes them one behind the other. Pages and what Ports tells are copies.
func order(x *console.Console) []row {
	var all []row
	one := func(name string, n *int, least, most int) {
		all = append(all, row{name: name, n: n, least: least, most: most})
	}
	many := func(name string, k int, n *int, most int) {
		all = append(all, row{name: fmt.Sprint(name, " ", k), n: n, most: most, alike: k%16 != 0})
	}
	held := func(name string, n *int, least, most int) {
		all = append(all, row{name: name, n: n, least: least, most: most, fixed: true})
	}
	flag := func(name string, b *bool) { all = append(all, row{name: name, truth: b, most: 1}) }
	b := x.Bus

	pages := b.Card.Pages()
	held("pages", &pages, pages, pages)
	one("A", &x.Core.R.A, 0, 255)
	one("X", &x.Core.R.X, 0, 255)
	one("Y", &x.Core.R.Y, 0, 255)
	one("S", &x.Core.R.S, 0, 255)
	one("P", &x.Core.R.P, 0, 255)
	one("PC", &x.Core.R.PC, 0, 65535)
	flag("Fast", &x.Core.Fast)
	one("Last", &x.Core.Last, 0, 255)
	one("Tick", &x.Tick, 0, x.Geometry.Lines*1365-1)
	one("Wait", &x.Wait, 0, 1<<24-1)
	one("Back", &x.Back, 0, 65535)
	one("Width", &x.Geometry.Width, 8, 512)
	one("Top", &x.Geometry.Top, 3, x.Geometry.Bottom)
	held("Bottom", &x.Geometry.Bottom, x.Geometry.Bottom, x.Geometry.Bottom)
	held("Blank", &x.Geometry.Blank, x.Geometry.Blank, x.Geometry.Blank)
	one("Lines", &x.Geometry.Lines, 262, 263)
	one("Latch", &b.Latch, 0, 3)
	for k := range 8 {
		one(fmt.Sprint("mapping register ", k), &b.File[k], 0, 255)
	}
	one("Hold", &b.Hold, 0, 255)
	flag("Port.Sel", &b.Port.Sel)
	flag("Port.Clr", &b.Port.Clr)
	flag("Port.Second", &b.Port.Second)
	one("Port.Index", &b.Port.Index, 0, 5)
	for k := range 5 {
		one(fmt.Sprint("Keys ", k), &b.Pads[k].Keys, 0, 65535)
		flag(fmt.Sprint("Six ", k), &b.Pads[k].Six)
	}
	one("Reload", &b.Timer.Reload, 0, 127)
	one("Count", &b.Timer.Count, 0, 127)
	flag("On", &b.Timer.On)
	one("Pre", &b.Timer.Pre, 0, 3071)
	one("Mask", &b.Irq.Mask, 0, 7)
	one("Lines of the Irq", &b.Irq.Lines, 0, 7)
	one("Regs.Sel", &b.Regs.Sel, 0, 31)
	for k, most := range []int{0xffff, 0xffff, 0xffff, 0, 0, 0x1fff, 0x3ff, 0x3ff, 0x1ff, 0xff, 0x7f1f, 0x7f7f, 0xff1f, 0x1ff, 0xff, 0x1f, 0xffff, 0xffff, 0xffff, 0xffff} {
		all = append(all, row{name: fmt.Sprint("register ", k), n: &b.Regs.R[k], most: most, masked: true})
	}
	one("Status", &b.Status, 0, 63)
	flag("Wait of the picture", &b.Wait)
	flag("Moved", &b.Moved)
	for k := range 256 {
		many("Table", k, &b.Table[k], 65535)
	}
	one("Vce.Control", &b.Vce.Control, 0, 255)
	one("Vce.Addr", &b.Vce.Addr, 0, 511)
	for k := range 512 {
		many("colour", k, &b.Vce.Table[k], 511)
	}
	one("Psg.Sel", &b.Psg.Sel, 0, 7)
	one("Main", &b.Psg.Main, 0, 255)
	one("LfoFreq", &b.Psg.LfoFreq, 0, 255)
	one("LfoControl", &b.Psg.LfoControl, 0, 255)
	for k := range 6 {
		c := &b.Psg.C[k]
		one(fmt.Sprint("Freq ", k), &c.Freq, 0, 4095)
		one(fmt.Sprint("Control ", k), &c.Control, 0, 255)
		one(fmt.Sprint("Balance ", k), &c.Balance, 0, 255)
		one(fmt.Sprint("Noise ", k), &c.Noise, 0, 255)
		one(fmt.Sprint("Index ", k), &c.Index, 0, 31)
		one(fmt.Sprint("Acc ", k), &c.Acc, 0, 1<<24-1)
		one(fmt.Sprint("Rand ", k), &c.Rand, 1, 1<<18-1)
		one(fmt.Sprint("Dda ", k), &c.Dda, 0, 31)
		for i := range 32 {
			many(fmt.Sprint("Wave ", k), i, &c.Wave[i], 31)
		}
	}
	write, read, step, low, buffer := b.Vram.Ports()
	one("write place", &write, 0, 65535)
	one("read place", &read, 0, 65535)
	one("step", &step, 0, 65535)
	one("low byte", &low, 0, 255)
	one("buffer", &buffer, 0, 65535)
	return all
}

// isPort tells whether a row is one of the video memory, that is no field.
func isPort(k int) bool { return k >= 1085 }

// bytesOf are a console's bytes as the chapter writes them.
func bytesOf(x *console.Console) []byte {
	all := []byte("PHOS\x01")
	for _, r := range order(x) {
		all = binary.LittleEndian.AppendUint32(all, uint32(r.value()))
	}
	for at := range 32768 {
		all = binary.LittleEndian.AppendUint16(all, uint16(x.Bus.Vram.Word(at)))
	}
	all = append(all, x.Bus.Ram[:]...)
	return binary.LittleEndian.AppendUint32(all, adler32.Checksum(all))
}

// sealed are bytes with the sum put right, in memory of their own.
func sealed(b []byte) []byte {
	own := append([]byte(nil), b...)
	at := len(own) - 4
	binary.LittleEndian.PutUint32(own[at:], adler32.Checksum(own[:at]))
	return own
}

// with are bytes with another number at its place, and the sum put right.
func with(b []byte, number int, n uint32) []byte {
	own := append([]byte(nil), b...)
	binary.LittleEndian.PutUint32(own[firstNumber+4*number:], n)
	return sealed(own)
}

// find tells which number of a state has that name.
func find(t testing.TB, rows []row, name string) int {
	t.Helper()
	for k, r := range rows {
		if r.name == name {
			return k
		}
	}
	t.Fatalf("there is no %s", name)
	return 0
}
