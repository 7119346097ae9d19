package console

import (
	"math"
	"math/rand/v2"
	"slices"
	"testing"

	"phosphor/api"
	"phosphor/bus"
	"phosphor/card"
	"phosphor/irq"
	"phosphor/pad"
	"phosphor/psg"
	"phosphor/timer"
	"phosphor/timing"
	"phosphor/vram"
)

// codeAt is where a program stands, in the card's first page: the eighth of the vectors too.
const codeAt = 0xe000

// asleep is the longest Wait: the processor does nothing then for more ticks than a run has.
const asleep = 1<<24 - 1

// beyond are numbers that hardly anything may be.
var beyond = []int{math.MinInt, math.MinInt + 1, -1 << 40, 1 << 40, math.MaxInt - 1, math.MaxInt}

// program is what a card does: where it begins, and where its interrupts lead; data follows from dataAt on.
type program struct {
	name              string
	start, irq1, tick []byte
	data              []byte
}

// Where parts of a program stand.
const (
	irq1At = codeAt + 0x1800
	tickAt = codeAt + 0x1900
	stopAt = codeAt + 0x1a00 // an RTI, where BRK and irq.Irq2 lead
	dataAt = codeAt + 0x1000
)

// load makes a card with so many pages, of which the first one has the program.
func (p program) load(t testing.TB, pages int) *card.Card {
	t.Helper()
	rom := make([]byte, pages*api.PageSize)
	put := func(at int, bytes []byte) { copy(rom[at-codeAt:], bytes) }
	put(codeAt, p.start)
	put(dataAt, p.data)
	put(irq1At, p.irq1)
	put(tickAt, p.tick)
	put(stopAt, []byte{0x40})
	vectors := []int{stopAt, irq1At, tickAt, stopAt, codeAt}
	for k, at := range vectors {
		put(codeAt+0x1ff6+2*k, []byte{byte(at % 256), byte(at / 256)})
	}
	return loaded(t, rom)
}

func loaded(t testing.TB, rom []byte) *card.Card {
	t.Helper()
	c, e := card.Load(rom)
	if e != api.OK {
		t.Fatalf("card.Load: %v", e)
	}
	return c
}

func (p program) console(t testing.TB) *Console {
	t.Helper()
	return made(t, p.load(t, 1))
}

func made(t testing.TB, c *card.Card) *Console {
	t.Helper()
	x := New(c)
	if x == nil {
		t.Fatal("New is nil")
	}
	return x
}

func join(parts ...[]byte) []byte { return slices.Concat(parts...) }

// video sets a register of the picture: ST0, ST1, ST2.
func video(register, n int) []byte {
	return []byte{0x03, byte(register), 0x13, byte(n), 0x23, byte(n >> 8)}
}

// store writes a byte at a place: LDA, STA.
func store(at, b int) []byte { return []byte{0xa9, byte(b), 0x8d, byte(at), byte(at >> 8)} }

// fetch reads a place: LDA.
func fetch(at int) []byte { return []byte{0xad, byte(at), byte(at >> 8)} }

// again goes back to the beginning of the program: JMP.
func again() []byte { return []byte{0x4c, byte(codeAt % 256), codeAt / 256} }

// transfer is one of a block, by its first byte.
func transfer(kind byte, from, to, n int) []byte {
	return []byte{kind, byte(from), byte(from >> 8), byte(to), byte(to >> 8), byte(n), byte(n >> 8)}
}

// awake is how programs begin: fast, the ports at 0, and the stack.
func awake() []byte { return []byte{0xd4, 0xa9, 0xff, 0x53, 0x01, 0xa2, 0xff, 0x9a} }

// geometryOf sets the registers of which a frame is laid.
func geometryOf(hdr, vpr, vdw, vcr int) []byte {
	return join(video(11, hdr), video(12, vpr), video(13, vdw), video(14, vcr))
}

// wide is the geometry of 240 lines of 256 colours.
func wide() []byte { return geometryOf(31, 0xf02, 239, 4) }

// forever stays where it is: BRA.
func forever() []byte { return []byte{0x80, 0xfe} }

// manySprites are the bytes of a table of which lines have too many, and that touch.
func manySprites() []byte {
	var bytes []byte
	for k := range 64 {
		for _, w := range []int{64 + 3*k, 32 + 5*k, 0x40 + 4*k, 0x3080 + 0x800*(k%2) + k%16} {
			bytes = append(bytes, byte(w), byte(w>>8))
		}
	}
	return bytes
}

// busy draws a background and sprites, of which there are too many, and some touch; hears all interrupts; and sounds.
func busy() program {
	sound := store(0x801, 0xff)
	for k := range 6 {
		sound = join(sound, store(0x800, k), store(0x802, 40+77*k), store(0x803, k%2), store(0x805, 0xff-7*k), store(0x804, 0))
		for i := range 32 {
			sound = join(sound, store(0x806, (i*(k+3)+5)%32))
		}
		sound = join(sound, store(0x807, 0x80+3*k), store(0x804, 0x9f-k))
	}
	data := manySprites()
	for at := len(data); at < 0x800; at++ {
		data = append(data, byte(at*at/7+at*31))
	}
	start := join(awake(), wide(), video(9, 0x50), video(7, 5), video(8, 9), video(6, 64+10), video(15, 0x11),
		store(0x402, 0), store(0x403, 0), transfer(0xe3, dataAt+512, 0x404, 1024),
		video(0, 0x700), []byte{0x03, 2}, transfer(0xe3, dataAt, 2, 2048),
		video(0, 0), []byte{0x03, 2}, transfer(0xe3, dataAt, 2, 2048),
		video(19, 0x700), sound, store(0xc00, 1), store(0xc01, 1), store(0x1402, 0), video(5, 0xcf),
		[]byte{0x58},
		[]byte{0xe6, 0x10}, fetch(0x1000), []byte{0x85, 0x11}, store(0x1000, 1), store(0x1000, 0), []byte{0x80, 0xee})
	return program{
		name:  "busy",
		start: start,
		// the status is looked at, the background is moved, and the line that is told is another
		irq1: join([]byte{0x48}, fetch(0), []byte{0x85, 0x12, 0x03, 8, 0xa5, 0x10, 0x8d, 2, 0, 0x23, 0, 0x03, 6, 0x8d, 2, 0, 0x23, 0, 0x68, 0x40}),
		tick: join([]byte{0x48}, store(0x1403, 0), fetch(0xc00), []byte{0x85, 0x13}, store(0x800, 3), store(0x804, 0xdf), []byte{0xa5, 0x10, 0x8d, 0x06, 0x08, 0xe6, 0x14, 0x68, 0x40}),
		data: data,
	}
}

// zeros is BRK again and again: the vectors are 0 too.
func zeros(t testing.TB) *Console { return made(t, loaded(t, make([]byte, api.PageSize))) }

func shown() program {
	return program{name: "shown", start: join(awake(), wide(), video(5, 0x88), forever())}
}

// restless changes the geometry in the midst of frames, again and again.
func restless() program {
	start := awake()
	for k, hdr := range []int{0x1f, 0x3f, 0x7f, 0, 0x27} {
		start = join(start, geometryOf(hdr, 0x302+0x1100*k, 200-50*k, k), store(0x400, k*5%8), video(5, 0x88+k), []byte{0xa2, 50, 0xa0, 200, 0x88, 0xd0, 0xfd, 0xca, 0xd0, 0xf8})
	}
	return program{name: "restless", start: join(start, again())}
}

// empty has frames without a line: the picture would begin behind the last one.
func empty() program {
	return program{name: "empty", start: join(awake(), geometryOf(0x7f, 0xff1f, 0x1ff, 0xff), store(0x400, 6), video(5, 0xcf), forever())}
}

// tall has frames whose last line is shown, and of 263 lines; the pixels are the narrowest, and there are as many as can be.
func tall() program {
	return program{name: "tall", start: join(awake(), geometryOf(0x7f, 0, 0x1ff, 0), store(0x400, 6), video(15, 0x10), video(5, 0xcf), forever())}
}

// moving moves blocks, slow and fast; one takes longer than a frame.
func moving() program {
	return program{name: "moving", start: join(awake(), wide(), video(5, 0xc8), []byte{0x58, 0x03, 2},
		transfer(0xe3, dataAt, 2, 0x300), []byte{0x54}, transfer(0x73, dataAt, 0x3000, 0x400), transfer(0xe3, 0, 2, 0), []byte{0xd4}, transfer(0xc3, 0x3fff, 0x37ff, 0x500), store(0xc00, 0), store(0xc01, 1), again()),
		irq1: join([]byte{0x48}, fetch(0), []byte{0x68, 0x40}),
		tick: join([]byte{0x48}, store(0x1403, 0), []byte{0x68, 0x40}),
	}
}

func programs() []program {
	return []program{busy(), shown(), restless(), empty(), tall(), moving(), {name: "nothing"}}
}

// anything is a program of any pieces, that wakes all chips; the same each time.
func anything(seed uint64) program {
	r := rand.New(rand.NewPCG(seed, 26))
	code := join(awake(), wide(), []byte{0x58})
	for len(code) < 0xf00 {
		code = join(code, piece(r))
	}
	data := manySprites()
	for len(data) < 0x800 {
		data = append(data, byte(r.IntN(256)))
	}
	return program{
		name:  "anything",
		start: join(code, again()),
		irq1:  join([]byte{0x48}, fetch(0), piece(r), []byte{0x68, 0x40}),
		tick:  join([]byte{0x48}, store(0x1403, 0), piece(r), []byte{0x68, 0x40}),
		data:  data,
	}
}

// piece is a few instructions of any kind.
func piece(r *rand.Rand) []byte {
	switch r.IntN(13) {
	case 0, 1:
		return video([]int{0, 1, 5, 6, 7, 8, 9, 15, 16, 17, 19}[r.IntN(11)], r.IntN(65536))
	case 2:
		return video(6, 64+r.IntN(240))
	case 3:
		return video(18, r.IntN(100))
	case 4:
		return geometryOf(r.IntN(128), r.IntN(32)+256*r.IntN(20), 150+r.IntN(100), r.IntN(256))
	case 5:
		return store(0x400+r.IntN(8), r.IntN(256))
	case 6:
		return store(0x800+r.IntN(10), r.IntN(256))
	case 7:
		return join(store(0xc00, r.IntN(4)), store(0xc01, r.IntN(5)))
	case 8:
		return [][]byte{{0x58}, {0x78}, {0xd4}, {0x54}, store(0x1402, r.IntN(8)), store(0x1000, r.IntN(4)), {0xf4}}[r.IntN(7)]
	case 9:
		return fetch([]int{0, 2, 3, 0x404, 0x405, 0x800, 0xc00, 0x1000, 0x1402, 0x1403}[r.IntN(10)])
	case 10:
		return join(video(5, 0xc0+r.IntN(16)), video(0, 0x700), []byte{0x03, 2}, transfer(0xe3, dataAt, 2, 512), video(19, 0x700))
	case 11:
		return join(video(0, r.IntN(32768)), []byte{0x03, 2}, transfer(0xe3, dataAt+r.IntN(1024), 2, 1+r.IntN(400)))
	}
	return []byte{0xa2, byte(1 + r.IntN(255)), 0xca, 0xd0, 0xfd}
}

// chance is a card whose bytes are any.
func chance(t testing.TB, seed uint64) *card.Card {
	t.Helper()
	r := rand.New(rand.NewPCG(seed, 62))
	rom := make([]byte, api.PageSize)
	for k := range rom {
		rom[k] = byte(r.IntN(256))
	}
	return loaded(t, rom)
}

// twin is a console of its own that is as another one.
func twin(c *Console) *Console {
	other, machine, memory := *c, *c.Bus, *c.Bus.Vram
	machine.Vram = &memory
	other.Bus = &machine
	return &other
}

// expect holds a whole console against what it must be.
func expect(t *testing.T, got, want *Console, what string) {
	t.Helper()
	g, w := *got, *want
	g.Bus, w.Bus = nil, nil
	if g != w {
		t.Errorf("%s: %+v, want %+v", what, g, w)
	}
	gb, wb := *got.Bus, *want.Bus
	gb.Vram, wb.Vram = nil, nil
	if gb != wb {
		t.Errorf("%s: the machine is another: Ram alike %v, Table alike %v, Vce alike %v, Psg alike %v", what, gb.Ram == wb.Ram, gb.Table == wb.Table, gb.Vce == wb.Vce, gb.Psg == wb.Psg)
		t.Logf("Regs %x, want %x; Status %d, want %d; Wait %v, want %v; Moved %v, want %v", gb.Regs, wb.Regs, gb.Status, wb.Status, gb.Wait, wb.Wait, gb.Moved, wb.Moved)
		t.Logf("Irq %v, want %v; Timer %v, want %v; Lag %d, want %d; File %x, want %x; Pads %v, want %v", gb.Irq, wb.Irq, gb.Timer, wb.Timer, gb.Lag, wb.Lag, gb.File, wb.File, gb.Pads, wb.Pads)
	}
	if *got.Bus.Vram != *want.Bus.Vram {
		t.Errorf("%s: the video memory is another", what)
	}
	if t.Failed() {
		t.FailNow()
	}
}

func expectFrame(t *testing.T, got, want Frame, what string) {
	t.Helper()
	if !slices.Equal(got.Samples, want.Samples) {
		t.Fatalf("%s: %d samples are others than the %d that must be", what, len(got.Samples), len(want.Samples))
	}
	if !slices.EqualFunc(got.Lines, want.Lines, slices.Equal) {
		t.Fatalf("%s: %d lines are others than the %d that must be", what, len(got.Lines), len(want.Lines))
	}
}

func expectNothing(t *testing.T, f Frame, what string) {
	t.Helper()
	if len(f.Lines) != 0 || len(f.Samples) != 0 {
		t.Errorf("%s: %d lines and %d samples are told", what, len(f.Lines), len(f.Samples))
	}
}

// rich is a console of which hardly anything is zero, so that what is changed beside what must be is seen; its processor is asleep.
func rich(t testing.TB) *Console {
	t.Helper()
	x := busy().console(t)
	b := x.Bus
	for at := range b.Ram {
		b.Ram[at] = byte(at*11 + at/256*5 + 3)
	}
	for at := range api.Words {
		b.Vram.Poke(at, at*40503+at/7)
	}
	for k := range b.Vce.Table {
		b.Vce.Table[k] = (k*37 + 11) % 512
	}
	b.Vce.Addr = 300
	b.Latch, b.Hold = 2, 0xa5
	b.Regs.Sel = 4
	b.Regs.R = [20]int{0x1234, 0x2345, 0x3456, 0, 0, 0x00c0, 0, 5, 6, 0x50, 0x202, 31, 0xf02, 239, 4, 0, 0x100, 0x200, 3, 0x1f00}
	b.Table[5] = 77
	b.Psg.Sel, b.Psg.Main, b.Psg.LfoFreq = 3, 0xfa, 7
	for k := range b.Psg.C {
		c := &b.Psg.C[k]
		c.Freq, c.Control, c.Balance, c.Acc = 100+k, 0x9f-k, 0xe7, 33
		for i := range c.Wave {
			c.Wave[i] = (i*(k+2) + 9) % 32
		}
	}
	b.Psg.C[5].Noise = 0x93
	b.Timer = timer.Timer{Reload: 9, Count: 4, On: true, Pre: 100}
	b.Port = pad.Port{Sel: true, Index: 1}
	b.Pads[1] = pad.Pad{Keys: 0x842, Six: true}
	x.Core.R = api.Registers{A: 0x11, X: 0x22, Y: 0x33, S: 0xfd, P: 0, PC: codeAt}
	x.Core.Fast, x.Core.Last = true, 0x5a
	x.Geometry = timing.Geometry{Width: 256, Top: 20, Bottom: 260, Blank: 260, Lines: 262}
	x.Tick, x.Wait, x.Back = 50*1365+700, asleep, 35
	if !Valid(x) {
		t.Fatal("it is not Valid")
	}
	return x
}

// none are nil, and consoles that no call made; some have fields that are not 0.
func none(t testing.TB) []*Console {
	full := func(b *bus.Bus) *Console {
		x := rich(t)
		x.Bus = b
		return x
	}
	bare := func() *bus.Bus {
		return &bus.Bus{Hold: 255, Timer: timer.Timer{Reload: 1, On: true}, Psg: psg.Fresh(), Irq: irq.State{Lines: 7}}
	}
	whole := busy().load(t, 1)
	all := []*Console{nil, {}, full(nil), full(&bus.Bus{}), full(bare()), full(bare()), full(bare()), full(bare()), {Bus: &bus.Bus{}}}
	all[5].Bus.Card = whole
	all[6].Bus.Vram = vram.New()
	all[7].Bus.Card, all[7].Bus.Vram = whole, &vram.Vram{}
	return append(all, noCard(t))
}

// noCard is a console with all but a card that has pages.
func noCard(t testing.TB) *Console {
	x := rich(t)
	x.Bus.Card = &card.Card{}
	return x
}

// image is a console's fields, and its machine's, as values: what nothing may have changed.
type image struct {
	there, bus bool
	console    Console
	machine    bus.Bus
}

func imageOf(c *Console) image {
	var i image
	if c == nil {
		return i
	}
	i.there, i.console = true, *c
	if c.Bus != nil {
		i.bus, i.machine = true, *c.Bus
	}
	return i
}
