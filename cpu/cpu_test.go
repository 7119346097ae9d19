package cpu

import (
	"fmt"
	"math"
	"strconv"
	"strings"
	"testing"

	"phosphor/api"
	"phosphor/bus"
	"phosphor/card"
	"phosphor/irq"
	"phosphor/mpr"
	"phosphor/pad"
	"phosphor/psg"
	"phosphor/timer"
	"phosphor/vce"
	"phosphor/vram"
)

// codeAt is where instructions stand, unless a test says otherwise: in memory, behind the stack.
const codeAt = 0x4400

// ramOnly is a file of which each eighth is memory; the zero page begins at Ram[0] then, the stack at Ram[0x100].
var ramOnly = mpr.File{0xf8, 0xf8, 0xf8, 0xf8, 0xf8, 0xf8, 0xf8, 0xf8}

// cards are how many pages cards have: all Plain ones, both Split ones, and the Banked one.
var cards = []int{1, 2, 4, 8, 16, 32, 64, 128, 48, 96, 320}

// modulo divides, where the package masks.
func modulo(n, m int) int { return (n%m + m) % m }

// image has other bytes in each page, and the vector of a reset, 0x9234, in the first one.
func image(pages int) []byte {
	bytes := make([]byte, pages*api.PageSize)
	for at := range bytes {
		bytes[at] = byte(at*7 + at/256*3 + at/8192*31 + 1)
	}
	bytes[0x1ffe], bytes[0x1fff] = 0x34, 0x92
	return bytes
}

func load(t testing.TB, pages int) *card.Card {
	t.Helper()
	c, e := card.Load(image(pages))
	if e != api.OK {
		t.Fatalf("card.Load of %d pages: %v", pages, e)
	}
	return c
}

// machine is one of memory in each eighth, with other bytes at each place of it; hardly anything else is zero, so that what is changed beside what must be is seen.
func machine(t testing.TB, pages int) *bus.Bus {
	t.Helper()
	b := bus.New(load(t, pages))
	if b == nil {
		t.Fatalf("bus.New of %d pages is nil", pages)
	}
	for at := range b.Ram {
		b.Ram[at] = byte(at*11 + at/256*5 + 3)
	}
	b.File = ramOnly
	b.Latch = 2
	b.Regs.Sel = 4
	b.Regs.R = [20]int{0x1234, 0x2345, 0x3456, 0, 0, 0x00cc, 70, 5, 6, 0x50, 0x202, 0x31f, 0xf02, 239, 4, 0, 0x100, 0x200, 3, 0x7f00}
	b.Table[5] = 77
	b.Status = 9
	b.Vce = vce.Vce{Control: 5, Addr: 300}
	b.Vce.Table[300] = 0x123
	b.Psg.Sel, b.Psg.Main = 3, 0x5a
	b.Timer = timer.Timer{Reload: 9, Count: 4, On: true, Pre: 100}
	b.Port = pad.Port{Sel: true, Index: 1}
	b.Pads[1] = pad.Pad{Keys: 0x842, Six: true}
	b.Hold = 0xa5
	return b
}

// twin is a machine of its own that is as another one.
func twin(b *bus.Bus) *bus.Bus {
	other, memory := *b, *b.Vram
	other.Vram = &memory
	return &other
}

// mirror makes a machine as another one, but for its video memory, which is long to copy.
func mirror(to, from *bus.Bus) {
	memory := to.Vram
	*to = *from
	to.Vram = memory
}

// without is a machine's own fields, so that memories can be compared by what they hold.
func without(b *bus.Bus) bus.Bus {
	other := *b
	other.Vram = nil
	return other
}

// ports are where the video memory stands; its words are compared by expectWords alone, for there are many.
func ports(b *bus.Bus) [5]int {
	write, read, step, low, buffer := b.Vram.Ports()
	return [5]int{write, read, step, low, buffer}
}

// expect holds a whole machine, but for the words of its video memory, against what it must be.
func expect(t *testing.T, got, want *bus.Bus, what string) {
	t.Helper()
	g, w := without(got), without(want)
	if g == w && ports(got) == ports(want) {
		return
	}
	t.Errorf("%s: the machine is another", what)
	for at := range g.Ram {
		if g.Ram[at] != w.Ram[at] {
			t.Errorf("Ram[%x] is %x, want %x", at, g.Ram[at], w.Ram[at])
		}
	}
	t.Logf("File %x, want %x; Regs %x, want %x; Irq %v, want %v; Hold %d, want %d; Status %d, want %d; Lag %d, want %d; Latch %d, want %d", g.File, w.File, g.Regs, w.Regs, g.Irq, w.Irq, g.Hold, w.Hold, g.Status, w.Status, g.Lag, w.Lag, g.Latch, w.Latch)
	t.FailNow()
}

func expectWords(t *testing.T, got, want *bus.Bus, what string) {
	t.Helper()
	if *got.Vram != *want.Vram {
		t.Fatalf("%s: the video memory is another", what)
	}
}

// hex reads a number of base 16.
func hex(t testing.TB, text string) int {
	t.Helper()
	n, err := strconv.ParseInt(text, 16, 64)
	if err != nil {
		t.Fatal(err)
	}
	return int(n)
}

// apply sets what a text names: registers (A=05), Last (L=05), the speed (F=1), mapping registers (M0=ff), and bytes of memory by their places in Ram (1ff=44).
func apply(t testing.TB, text string, c *Core, b *bus.Bus) {
	t.Helper()
	registers := map[string]*int{"A": &c.R.A, "X": &c.R.X, "Y": &c.R.Y, "S": &c.R.S, "P": &c.R.P, "PC": &c.R.PC, "L": &c.Last}
	for _, word := range strings.Fields(text) {
		name, value, _ := strings.Cut(word, "=")
		n := hex(t, value)
		if register := registers[name]; register != nil {
			*register = n
		} else if name == "F" {
			c.Fast = n == 1
		} else if rest, ok := strings.CutPrefix(name, "M"); ok {
			b.File[hex(t, rest)] = n
		} else {
			b.Ram[hex(t, name)] = byte(n)
		}
	}
}

// begin is a processor of which each register is another, and that takes all interrupts.
func begin() Core {
	return Core{R: api.Registers{A: 0x11, X: 0x22, Y: 0x33, S: 0xfd, PC: codeAt}, Last: 0x5a}
}

func show(c Core) string { return fmt.Sprintf("%x, Fast %v, Last %x", c.R, c.Fast, c.Last) }

// place puts bytes into memory, from a place of a machine that is ramOnly.
func place(b *bus.Bus, at int, code ...int) {
	for k, n := range code {
		b.Ram[modulo(at+k, 8192)] = byte(n)
	}
}

// noMachines are nil, and machines that no call made.
func noMachines(t testing.TB) []*bus.Bus {
	full := func() *bus.Bus {
		return &bus.Bus{Hold: 255, Lag: 5000, Timer: timer.Timer{Reload: 1, On: true}, Psg: psg.Fresh(), File: ramOnly, Irq: irq.State{Lines: 7}}
	}
	all := []*bus.Bus{nil, {}, full(), full(), full(), full(), full()}
	all[3].Card = load(t, 1)
	all[4].Vram = vram.New()
	all[5].Card, all[5].Vram = &card.Card{}, vram.New()
	all[6].Card, all[6].Vram = load(t, 1), &vram.Vram{}
	return all
}

// TestStartOfNone: P25.1, a zero Core of nil, and of machines made by none; nothing is done.
func TestStartOfNone(t *testing.T) {
	for k, b := range noMachines(t) {
		var before bus.Bus
		if b != nil {
			before = *b
		}
		if c := Start(b); c != (Core{}) {
			t.Errorf("machine %d: Start is %v", k, c)
		}
		if b != nil && *b != before {
			t.Errorf("machine %d: Start changed it", k)
		}
	}
}

// TestStart: P25.1, of each kind of card, with files that were others before: the registers, and nothing changed but the file.
func TestStart(t *testing.T) {
	files := []mpr.File{mpr.Fresh(), {}, ramOnly, {0xff, 0xff, 0xff, 0xff, 0xff, 0xff, 0xff, 0xff}, {1, 2, 3, 4, 5, 6, 7, 8}, {256, -1, 300, -300, math.MaxInt, math.MinInt, 1 << 40, 257}}
	want := Core{R: api.Registers{P: api.FlagI, PC: 0x9234}}
	for _, pages := range cards {
		for _, file := range files {
			b := machine(t, pages)
			b.File, b.Lag, b.Irq.Lines = file, 77, 7
			behind := twin(b)
			behind.File = mpr.File{0, 0xf8, 0, 0, 0, 0, 0, 0}
			if c := Start(b); c != want {
				t.Errorf("%d pages, %x: Start is %s", pages, file, show(c))
			}
			expect(t, b, behind, "Start")
			expectWords(t, b, behind, "Start")
		}
	}
}

// TestStartFresh: P25.1, of a machine that is new; and the same again.
func TestStartFresh(t *testing.T) {
	b := bus.New(load(t, 1))
	first := Start(b)
	c, _ := Step(first, b)
	if again := Start(b); again != first || c == first || first.R.PC != 0x9234 || first.Fast || first.Last != 0 {
		t.Errorf("Start is %s, and then %s", show(first), show(again))
	}
}

// TestStartVector: P25.1, PC is the word at fffe of the card's first page, the high byte behind.
func TestStartVector(t *testing.T) {
	for _, pc := range []int{0, 1, 0xff, 0x100, 0xe000, 0xfffe, 0xffff} {
		rom := make([]byte, api.PageSize)
		rom[8190], rom[8191] = byte(pc%256), byte(pc/256)
		c, _ := card.Load(rom)
		if core := Start(bus.New(c)); core.R.PC != pc {
			t.Errorf("PC is %x, want %x", core.R.PC, pc)
		}
	}
}

// TestTicks: P25.1, both speeds, whatever the registers are. What leaves Go's int goes round, as its products do.
func TestTicks(t *testing.T) {
	rows := []struct{ cycles, fast, slow int }{
		{0, 0, 0}, {1, 3, 12}, {2, 6, 24}, {3, 9, 36}, {7, 21, 84}, {17, 51, 204}, {393233, 1179699, 4718796}, {524305, 1572915, 6291660},
		{-1, -3, -12}, {-2, -6, -24}, {-100, -300, -1200}, {1 << 40, 3 << 40, 12 << 40}, {-1 << 40, -3 << 40, -12 << 40},
		{math.MaxInt / 12, math.MaxInt / 12 * 3, math.MaxInt - 7}, {math.MinInt / 12, math.MinInt / 12 * 3, math.MinInt + 8},
		{math.MaxInt, math.MaxInt - 2, -12}, {math.MinInt, math.MinInt, 0},
	}
	for _, r := range rows {
		for _, c := range []Core{{}, begin(), {R: api.Registers{A: -1, P: 255, PC: math.MaxInt}, Last: 300}} {
			c.Fast = true
			if got := Ticks(c, r.cycles); got != r.fast {
				t.Errorf("Ticks of %d, fast: %d, want %d", r.cycles, got, r.fast)
			}
			c.Fast = false
			if got := Ticks(c, r.cycles); got != r.slow {
				t.Errorf("Ticks of %d: %d, want %d", r.cycles, got, r.slow)
			}
		}
	}
}

// TestStepOfNone: P25.2, c as it is, and 0, of nil, and of machines made by none; nothing is done.
func TestStepOfNone(t *testing.T) {
	cores := []Core{{}, begin(), {Fast: true, Last: 300}, {Last: -1}}
	for _, n := range []int{256, 65536, -1, math.MaxInt, math.MinInt} {
		cores = append(cores, Core{R: api.Registers{A: n, X: n, Y: n, S: n, P: n, PC: n}, Fast: true, Last: n})
	}
	for k, b := range noMachines(t) {
		var before bus.Bus
		if b != nil {
			before = *b
		}
		for _, c := range cores {
			if got, cycles := Step(c, b); got != c || cycles != 0 {
				t.Errorf("machine %d: Step of %v is %v, %d", k, c, got, cycles)
			}
		}
		if b != nil && *b != before {
			t.Errorf("machine %d: Step changed it", k)
		}
	}
}

// vectors puts a place behind each vector: 6102 hex behind fff6, 6304, 6506, 6708, 690a behind the others.
func vectors(b *bus.Bus) {
	place(b, 0xfff6, 0x02, 0x61, 0x04, 0x63, 0x06, 0x65, 0x08, 0x67, 0x0a, 0x69)
}

// vectorPlace tells where the lines that are raised, and not masked, lead; 0: none is.
func vectorPlace(lines, mask int) int {
	free := func(line int) bool { return lines/line%2 == 1 && mask/line%2 == 0 }
	switch {
	case free(4):
		return 0x6506
	case free(2):
		return 0x6304
	case free(1):
		return 0x6102
	}
	return 0
}

// TestInterrupts: P25.2, each of the lines, masks and flags: where it goes, what is pushed and where, the flags, the cycles; else the instruction is done.
func TestInterrupts(t *testing.T) {
	before := machine(t, 1)
	vectors(before)
	place(before, codeAt, 0xea)
	b, want := twin(before), twin(before)
	for lines := range 8 {
		for mask := range 8 {
			for p := range 256 {
				before.Irq = irq.State{Mask: mask, Lines: lines}
				mirror(b, before)
				mirror(want, before)
				c := begin()
				c.R.P = p
				after, cycles := c, 8
				if to := vectorPlace(lines, mask); to != 0 && p/4%2 == 0 {
					place(want, 0x1fb, p-p/16%2*16, 0x00, 0x44)
					after.R.PC, after.R.S = to, 0xfa
					after.R.P = p - p/8%2*8 - p/32%2*32 + 4
				} else {
					after.R.PC, after.R.P, cycles = codeAt+1, p-p/32%2*32, 2
				}
				got, n := Step(c, b)
				if got != after || n != cycles {
					t.Fatalf("lines %d, mask %d, P %x: %s, %d, want %s, %d", lines, mask, p, show(got), n, show(after), cycles)
				}
				expect(t, b, want, "an interrupt")
			}
		}
	}
}

// TestInterruptWide: P25.2, bits of Mask, Lines and P beside theirs change nothing.
func TestInterruptWide(t *testing.T) {
	b := machine(t, 1)
	vectors(b)
	b.Irq = irq.State{Mask: 1<<40 + 8 + 4, Lines: 1<<30 + 16 + 6}
	c := begin()
	c.R.P, c.R.S, c.R.PC = 1<<20+256, 256+0x80, 65536+0x1234
	got, n := Step(c, b)
	if got.R != (api.Registers{A: 0x11, X: 0x22, Y: 0x33, S: 0x7d, P: 4, PC: 0x6304}) || n != 8 {
		t.Errorf("%s, %d", show(got), n)
	}
	if b.Ram[0x180] != 0x12 || b.Ram[0x17f] != 0x34 || b.Ram[0x17e] != 0 {
		t.Errorf("%x is pushed", b.Ram[0x17e:0x181])
	}
}

// TestInterruptStack: P25.2, S goes round within its page, whatever PC is.
func TestInterruptStack(t *testing.T) {
	before := machine(t, 1)
	vectors(before)
	before.Irq.Lines = irq.Irq2
	b, want := twin(before), twin(before)
	for s := range 256 {
		for _, pc := range []int{0, 1, 0x12ab, 0x7fff, 0xffff} {
			mirror(b, before)
			mirror(want, before)
			c := begin()
			c.R.S, c.R.PC, c.R.P = s, pc, 0xfb
			want.Ram[0x100+s] = byte(pc / 256)
			want.Ram[0x100+modulo(s-1, 256)] = byte(pc % 256)
			want.Ram[0x100+modulo(s-2, 256)] = 0xeb
			got, n := Step(c, b)
			if got.R.S != modulo(s-3, 256) || got.R.PC != 0x6102 || got.R.P != 0xd7 || n != 8 {
				t.Errorf("S %x: %s, %d", s, show(got), n)
			}
			expect(t, b, want, "an interrupt")
		}
	}
}

// TestInterruptTimer: P25.2, a timer that comes round only by what it is behind, is settled ahead of the interrupt, also where none is taken.
func TestInterruptTimer(t *testing.T) {
	rows := []struct{ lag, mask, p, pc, lines, pre int }{
		{1, 0, 0, 0x6506, 4, 0}, {2, 3, 0, 0x6506, 4, 1}, {3071, 0, 0xfb, 0x6506, 4, 3070},
		{0, 0, 0, codeAt + 1, 0, 3071}, {-5, 0, 0, codeAt + 1, 0, 3071},
		{1, 4, 0, codeAt + 1, 4, 0}, {1, 0, 4, codeAt + 1, 4, 0},
	}
	for _, r := range rows {
		b := machine(t, 1)
		vectors(b)
		place(b, codeAt, 0xea)
		b.Timer, b.Lag, b.Irq.Mask = timer.Timer{Reload: 9, On: true, Pre: 3071}, r.lag, r.mask
		c := begin()
		c.R.P = r.p
		got, _ := Step(c, b)
		if got.R.PC != r.pc || b.Irq.Lines != r.lines || b.Lag != 0 || b.Timer.Pre != r.pre {
			t.Errorf("%v: PC %x, %v, %v, Lag %d", r, got.R.PC, b.Irq, b.Timer, b.Lag)
		}
	}
}

// TestInterruptSlow: P25.2, pushes at slow places take a cycle each, and are writes there.
func TestInterruptSlow(t *testing.T) {
	b := machine(t, 1)
	vectors(b)
	b.File[1], b.Irq.Lines, b.Regs.Sel = 0xff, irq.Clock, 6
	want, c := twin(b), begin()
	c.R.S, c.R.P = 3, 0xf8
	want.Regs.R[6] = 0x4400 % 1024 // its high byte at 3, its low one at 2; the flags, at 1, are lost
	got, n := Step(c, b)
	if got.R != (api.Registers{A: 0x11, X: 0x22, Y: 0x33, S: 0, P: 0xd4, PC: 0x6506}) || n != 8+3 {
		t.Errorf("%s, %d", show(got), n)
	}
	expect(t, b, want, "an interrupt")

	b = machine(t, 1)
	b.File[7], b.Irq.Lines = 0xff, irq.Irq1 // nothing stands where the vector is
	if got, n = Step(begin(), b); got.R.PC != 0xffff || n != 8 {
		t.Errorf("PC %x, %d", got.R.PC, n)
	}
}

// TestInterruptFast: P25.2, the speed and Last stay; interrupts come between instructions, and RTI leads back, with T.
func TestInterruptFast(t *testing.T) {
	b := machine(t, 1)
	vectors(b)
	place(b, codeAt, 0x58, 0xf4, 0x69, 0x05)
	place(b, 0x6304, 0x40)
	c := Core{R: api.Registers{A: 7, X: 0x80, S: 0xff, P: api.FlagI, PC: codeAt}, Fast: true, Last: 300}
	c, _ = Step(c, b)
	c, _ = Step(c, b)
	b.Tell(bus.Blank, true)
	c, _ = Step(c, b)
	if c.R.PC != 0x6304 || c.R.P != api.FlagI || !c.Fast || c.Last != 300 || b.Ram[0x1fd] != api.FlagT {
		t.Errorf("the interrupt: %s, %x", show(c), b.Ram[0x1fd])
	}
	b.Irq.Lines = 0
	b.Ram[0x80] = 0x20
	c, _ = Step(c, b)
	if c.R.PC != codeAt+2 || c.R.P != api.FlagT || c.R.S != 0xff {
		t.Errorf("RTI: %s", show(c))
	}
	c, n := Step(c, b)
	if b.Ram[0x80] != 0x25 || c.R.A != 7 || n != 5 || c.R.P != 0 {
		t.Errorf("ADC: %s, %d, %x", show(c), n, b.Ram[0x80])
	}
}
