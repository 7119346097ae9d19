package state

import (
	"fmt"
	"math/rand/v2"
	"slices"
	"testing"

	"phosphor/api"
	"phosphor/bus"
	"phosphor/card"
	"phosphor/console"
	"phosphor/pad"
	"phosphor/timer"
	"phosphor/timing"
	"phosphor/vram"
)

// Where parts of a program stand, in the card's first page, that is the eighth of what the processor sees.
const (
	codeAt = 0xe000
	dataAt = codeAt + 0x1000
	irq1At = codeAt + 0x1800
	tickAt = codeAt + 0x1900
	stopAt = codeAt + 0x1a00 // an RTI, where BRK leads
)

// pageCounts are all numbers of pages that cards have.
var pageCounts = []int{1, 2, 4, 8, 16, 32, 64, 128, 48, 96, 320}

func join(parts ...[]byte) []byte { return slices.Concat(parts...) }

// video sets a register of the picture: ST0, ST1, ST2.
func video(register, n int) []byte {
	return []byte{0x03, byte(register), 0x13, byte(n), 0x23, byte(n >> 8)}
}

// store writes a byte at a place: LDA, STA; fetch reads one: LDA.
func store(at, b int) []byte { return []byte{0xa9, byte(b), 0x8d, byte(at), byte(at >> 8)} }

func fetch(at int) []byte { return []byte{0xad, byte(at), byte(at >> 8)} }

// moveIn is a transfer of n bytes to two places that take turns: TIA.
func moveIn(from, to, n int) []byte {
	return []byte{0xe3, byte(from), byte(from >> 8), byte(to), byte(to >> 8), byte(n), byte(n >> 8)}
}

// awake is how programs begin: fast, the ports at 0, the stack, and a picture of 240 lines.
func awake() []byte {
	return join([]byte{0xd4, 0xa9, 0xff, 0x53, 0x01, 0xa2, 0xff, 0x9a}, video(11, 31), video(12, 0xf02), video(13, 239), video(14, 4), []byte{0x58})
}

// piece is a few instructions of any kind.
func piece(r *rand.Rand) []byte {
	switch r.IntN(11) {
	case 0, 1:
		return video([]int{0, 1, 5, 6, 7, 8, 9, 15, 16, 17, 19}[r.IntN(11)], r.IntN(65536))
	case 2:
		return join(video(6, 64+r.IntN(240)), video(18, r.IntN(100)))
	case 3:
		return join(video(11, r.IntN(128)), video(12, r.IntN(32)+256*r.IntN(20)), video(13, 150+r.IntN(100)))
	case 4:
		return store(0x400+r.IntN(8), r.IntN(256))
	case 5:
		return store(0x800+r.IntN(10), r.IntN(256))
	case 6:
		return join(store(0xc00, r.IntN(4)), store(0xc01, r.IntN(5)))
	case 7:
		return [][]byte{{0x58}, {0x78}, {0xd4}, {0x54}, store(0x1402, r.IntN(8)), store(0x1000, r.IntN(4)), {0xf4}, store(codeAt+0x1ff0+r.IntN(4), 0)}[r.IntN(8)]
	case 8:
		return fetch([]int{0, 2, 3, 0x404, 0x405, 0x800, 0xc00, 0x1000, 0x1402, 0x1403}[r.IntN(10)])
	case 9:
		return join(video(5, 0xc0+r.IntN(16)), video(0, r.IntN(32768)), []byte{0x03, 2}, moveIn(dataAt+r.IntN(1024), 2, 1+r.IntN(400)), video(19, r.IntN(32768)))
	}
	return []byte{0xa2, byte(1 + r.IntN(255)), 0xca, 0xd0, 0xfd}
}

// program is a card of a program of any pieces, that wakes all chips; the same each time.
func program(t testing.TB, pages int, seed uint64) *card.Card {
	t.Helper()
	r := rand.New(rand.NewPCG(seed, 27))
	rom := make([]byte, pages*api.PageSize)
	for k := range rom {
		rom[k] = byte(r.IntN(256))
	}
	put := func(at int, bytes []byte) { copy(rom[at-codeAt:], bytes) }
	code := awake()
	for len(code) < 0xf00 {
		code = join(code, piece(r))
	}
	put(codeAt, join(code, []byte{0x4c, byte(codeAt % 256), codeAt / 256}))
	put(irq1At, join([]byte{0x48}, fetch(0), piece(r), []byte{0x68, 0x40}))
	put(tickAt, join([]byte{0x48}, store(0x1403, 0), piece(r), []byte{0x68, 0x40}))
	put(stopAt, []byte{0x40})
	for k, at := range []int{stopAt, irq1At, tickAt, stopAt, codeAt} {
		put(codeAt+0x1ff6+2*k, []byte{byte(at % 256), byte(at / 256)})
	}
	return loaded(t, rom)
}

// chance is a card whose bytes are any.
func chance(t testing.TB, pages int, seed uint64) *card.Card {
	t.Helper()
	r := rand.New(rand.NewPCG(seed, 72))
	rom := make([]byte, pages*api.PageSize)
	for k := range rom {
		rom[k] = byte(r.IntN(256))
	}
	return loaded(t, rom)
}

func zeros(t testing.TB, pages int) *card.Card {
	t.Helper()
	return loaded(t, make([]byte, pages*api.PageSize))
}

func loaded(t testing.TB, rom []byte) *card.Card {
	t.Helper()
	c, e := card.Load(rom)
	if e != api.OK {
		t.Fatalf("card.Load: %v", e)
	}
	return c
}

// rich is a console of which hardly anything is zero, so that a number that stands elsewhere is seen.
func rich(t testing.TB, pages int) *console.Console {
	t.Helper()
	x := console.New(program(t, pages, 1))
	b := x.Bus
	for at := range b.Ram {
		b.Ram[at] = byte(at*11 + at/256*5 + 3)
	}
	words := make([]int, api.Words)
	for at := range words {
		words[at] = (at*40503 + at/7) % 65536
	}
	memory, ok := vram.Load(words, [5]int{0x1234, 0x8765, 128, 0xa6, 0xfedc})
	if !ok {
		t.Fatal("vram.Load")
	}
	b.Vram = memory
	for k := range b.Table {
		b.Table[k] = (k*771 + 65000) % 65536
	}
	for k := range b.Vce.Table {
		b.Vce.Table[k] = (k*37 + 11) % 512
	}
	b.Vce.Control, b.Vce.Addr = 0x85, 300
	b.Latch, b.Hold, b.Status = 2, 0xa5, 37
	b.Wait, b.Moved = true, false
	b.File = [8]int{0xff, 0xf8, 3, 0x81, 4, 5, 6, 0}
	b.Regs.Sel = 18
	b.Regs.R = [20]int{0x1234, 0x2345, 0x3456, 0, 0, 0x10c0, 0x44, 0x305, 0x106, 0x50, 0x202, 0x21f, 0xf02, 239, 4, 0x13, 0x100, 0x200, 0xfffe, 0x1f00}
	b.Psg.Sel, b.Psg.Main, b.Psg.LfoFreq, b.Psg.LfoControl = 3, 0xfa, 7, 0x81
	for k := range b.Psg.C {
		c := &b.Psg.C[k]
		c.Freq, c.Control, c.Balance, c.Noise = 100+1000*k%4000, 0x9f-k, 0xe7-16*k, 0x93+k
		c.Index, c.Acc, c.Rand, c.Dda = 5+k, 0x123456+k, 0x2abcd-k, 31-k
		for i := range c.Wave {
			c.Wave[i] = (i*(k+2) + 9) % 32
		}
	}
	b.Timer = timer.Timer{Reload: 99, Count: 44, On: true, Pre: 2900}
	b.Irq.Mask, b.Irq.Lines = 5, 6
	b.Port = pad.Port{Sel: true, Second: true, Index: 4}
	b.Pads = [5]pad.Pad{{Keys: 0x842, Six: true}, {Keys: 0xffff}, {Keys: 0x1000, Six: true}, {Keys: 7}, {Keys: 0x8001, Six: true}}
	x.Core.R = api.Registers{A: 0x11, X: 0x22, Y: 0x33, S: 0xfd, P: 0x8c, PC: 0xe123}
	x.Core.Fast, x.Core.Last = true, 0x5a
	x.Geometry = timing.Geometry{Width: 264, Top: 20, Bottom: 250, Blank: 250, Lines: 262}
	x.Tick, x.Wait, x.Back = 150*1365+700, 0xabcde, 0x8765
	if !console.Valid(x) {
		t.Fatal("it is not Valid")
	}
	return x
}

// image is a console, and all that stands behind its pointers, as values.
type image struct {
	console console.Console
	machine bus.Bus
	memory  vram.Vram
}

func imageOf(x *console.Console) *image {
	i := &image{console: *x}
	if x.Bus != nil {
		i.machine = *x.Bus
		if x.Bus.Vram != nil {
			i.memory = *x.Bus.Vram
		}
	}
	return i
}

// twin is a console of its own that is as another one.
func twin(x *console.Console) *console.Console {
	other, machine, memory := *x, *x.Bus, *x.Bus.Vram
	machine.Vram = &memory
	other.Bus = &machine
	return &other
}

// expect holds a whole console against what it must be; the cards are held against each other as objects.
func expect(t testing.TB, got, want *console.Console, what string) {
	t.Helper()
	g, w := imageOf(got), imageOf(want)
	g.console.Bus, w.console.Bus = nil, nil
	g.machine.Vram, w.machine.Vram = nil, nil
	if g.console != w.console {
		t.Fatalf("%s: %+v, want %+v", what, g.console, w.console)
	}
	if g.machine != w.machine {
		t.Fatalf("%s: the machine is another: Ram alike %v, Table alike %v, Vce alike %v, Psg alike %v, Card alike %v", what, g.machine.Ram == w.machine.Ram, g.machine.Table == w.machine.Table, g.machine.Vce == w.machine.Vce, g.machine.Psg == w.machine.Psg, g.machine.Card == w.machine.Card)
	}
	if g.memory != w.memory {
		t.Fatalf("%s: the video memory is another", what)
	}
}

func expectFrame(t testing.TB, got, want console.Frame, what string) {
	t.Helper()
	if !slices.Equal(got.Samples, want.Samples) {
		t.Fatalf("%s: %d samples are others than the %d that must be", what, len(got.Samples), len(want.Samples))
	}
	if !slices.EqualFunc(got.Lines, want.Lines, slices.Equal) {
		t.Fatalf("%s: %d lines are others than the %d that must be", what, len(got.Lines), len(want.Lines))
	}
}

// encoded is Encode of what can be.
func encoded(t testing.TB, x *console.Console) []byte {
	t.Helper()
	b, e := Encode(x)
	if e != api.OK {
		t.Fatalf("Encode: %v", e)
	}
	return b
}

// decoded is Decode of what can be.
func decoded(t testing.TB, c *card.Card, b []byte) *console.Console {
	t.Helper()
	x, e := Decode(c, b)
	if e != api.OK || x == nil {
		t.Fatalf("Decode: %v", e)
	}
	return x
}

// expectRefused asks for an error, and for nothing beside it.
func expectRefused(t testing.TB, c *card.Card, b []byte, want api.Errno, what string) {
	t.Helper()
	if x, e := Decode(c, b); e != want || x != nil {
		t.Errorf("%s: Decode tells %v, want %v; a console: %v", what, e, want, x != nil)
	}
}

// tour is a console in the midst of frames and lines, behind runs, presses and resets.
func tour(c *card.Card, r *rand.Rand) *console.Console {
	x := console.New(c)
	for range 2 + r.IntN(6) {
		switch r.IntN(6) {
		case 0:
			x.Press([5]pad.Pad{{Keys: r.IntN(65536)}, {Keys: r.IntN(65536), Six: true}, {Keys: r.IntN(65536)}, {}, {Keys: r.IntN(65536), Six: r.IntN(2) == 0}})
		case 1:
			if r.IntN(3) == 0 {
				x.Reset()
			}
		case 2:
			x.RunFrame()
		default:
			x.Run(1 + r.IntN(300000))
		}
	}
	return x
}

// named is a card, and what it is.
type named struct {
	what string
	card *card.Card
}

// cards are some of each kind, with programs of any pieces, of any bytes, and of zeros.
func cards(t testing.TB) []named {
	var all []named
	for k, pages := range pageCounts {
		all = append(all,
			named{fmt.Sprint("a program of ", pages), program(t, pages, uint64(100+k))},
			named{fmt.Sprint("any bytes of ", pages), chance(t, pages, uint64(200+k))})
	}
	return append(all, named{"zeros of 1", zeros(t, 1)}, named{"zeros of 320", zeros(t, 320)})
}
