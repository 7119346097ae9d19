package bus

import (
	"math"
	"testing"

	"phosphor/api"
	"phosphor/card"
	"phosphor/dma"
	"phosphor/irq"
	"phosphor/mpr"
	"phosphor/pad"
	"phosphor/psg"
	"phosphor/regs"
	"phosphor/timer"
	"phosphor/vce"
	"phosphor/vram"
)

// Where the ports begin on the bus.
const (
	vdcPort   = 0x1fe000
	vcePort   = 0x1fe400
	psgPort   = 0x1fe800
	timerPort = 0x1fec00
	padPort   = 0x1ff000
	irqPort   = 0x1ff400
)

// cards are how many pages cards have: all Plain ones, both Split ones, and the Banked one.
var cards = []int{1, 2, 4, 8, 16, 32, 64, 128, 48, 96, 320}

// outside are numbers that are no places on the bus.
var outside = []int{-1, -2, -8192, -0x200000, 0x200000, 0x200005, 0x3f0005, 1 << 32, -1 << 32, math.MaxInt, math.MinInt, math.MinInt + 5}

// notBytes are written besides all bytes.
var notBytes = []int{256, 257, 258, -1, -2, -255, -256, 511, 65535, 65536, 1 << 32, 1<<32 + 77, math.MaxInt, math.MaxInt - 1, math.MinInt, math.MinInt + 1}

// written are all bytes, and numbers that are none.
func written() []int {
	all := append([]int{}, notBytes...)
	for b := range 256 {
		all = append(all, b)
	}
	return all
}

// modulo divides, where the package masks.
func modulo(n, m int) int { return (n%m + m) % m }

// image has in each page its number, in its first two bytes and its last two, and bytes that tell places between them.
func image(pages int) []byte {
	bytes := make([]byte, pages*8192)
	for page := range pages {
		one := bytes[page*8192 : (page+1)*8192]
		for at := range one {
			one[at] = byte(at*7 + page*31 + at/256)
		}
		one[0], one[1] = byte(page), byte(page/256)
		one[8190], one[8191] = byte(page), byte(page/256)
	}
	return bytes
}

func load(t *testing.T, pages int) *card.Card {
	t.Helper()
	c, e := card.Load(image(pages))
	if e != api.OK {
		t.Fatalf("card.Load of %d pages: %v", pages, e)
	}
	return c
}

// machine is one in which hardly anything is zero, so that what is changed beside what must be is seen.
func machine(t *testing.T, pages int) *Bus {
	t.Helper()
	b := New(load(t, pages))
	if b == nil {
		t.Fatalf("New of %d pages is nil", pages)
	}
	fillVideo(b)
	for at := range b.Ram {
		b.Ram[at] = byte(at*5 + at/256*3 + 1)
	}
	b.Latch = 2
	b.File = mpr.File{1, 2, 3, 4, 5, 6, 7, 8}
	b.Vce = vce.Vce{Control: 5, Addr: 300}
	for k := range b.Vce.Table {
		b.Vce.Table[k] = (k*37 + 11) % 512
	}
	b.Psg.Sel, b.Psg.Main, b.Psg.LfoFreq, b.Psg.LfoControl = 3, 0x5a, 7, 1
	for k := range b.Psg.C {
		b.Psg.C[k] = psg.Channel{Freq: 0xabc - k, Control: 0x85 + k, Balance: 0xfc - k, Noise: k, Index: 3 + k, Acc: 5 * k, Rand: 9 + k, Dda: 20 + k}
		for i := range b.Psg.C[k].Wave {
			b.Psg.C[k].Wave[i] = (i*3 + k) % 32
		}
	}
	b.Timer = timer.Timer{Reload: 9, Count: 4, On: true, Pre: 100}
	b.Irq = irq.State{Mask: 1, Lines: 3}
	b.Port = pad.Port{Sel: true, Index: 1, Second: true}
	b.Pads = [5]pad.Pad{{Keys: 0x021}, {Keys: 0x842}, {Keys: 0x354, Six: true}, {Keys: 0x1}, {Keys: 0xff, Six: true}}
	b.Hold, b.Lag = 0xa5, 77
	return b
}

func fillVideo(b *Bus) {
	b.Regs.Sel = 4
	b.Regs.R = [20]int{0x1234, 0x2345, 0x3456, 0, 0, 0x00cc, 70, 5, 6, 0x50, 0x202, 0x31f, 0xf02, 239, 4, 0, 0x100, 0x200, 3, 0x7f00}
	for at := range api.Words {
		b.Vram.Poke(at, at*40503+12345)
	}
	b.Vram.SetWrite(0x1111)
	b.Vram.SetRead(0x2222)
	b.Vram.Put(false, 0x99)
	for k := range b.Table {
		b.Table[k] = 1000 + k
	}
	b.Status = 9
}

// twin is a machine of its own that is as another one.
func twin(b *Bus) *Bus {
	other, memory := *b, *b.Vram
	other.Vram = &memory
	return &other
}

// without is a machine's own fields, so that memories can be compared by what they hold.
func without(b *Bus) Bus {
	other := *b
	other.Vram = nil
	return other
}

// expect holds a whole machine against what it must be.
func expect(t *testing.T, got, want *Bus, what string, numbers ...int) {
	t.Helper()
	if *got.Vram != *want.Vram {
		t.Errorf("%s %x: the video memory is another", what, numbers)
	}
	g, w := without(got), without(want)
	if g == w {
		return
	}
	t.Errorf("%s %x: the machine is another", what, numbers)
	parts := []struct {
		name string
		same bool
	}{
		{"Regs", g.Regs == w.Regs}, {"Table", g.Table == w.Table}, {"Status", g.Status == w.Status}, {"Wait", g.Wait == w.Wait}, {"Moved", g.Moved == w.Moved},
		{"Card", g.Card == w.Card}, {"Latch", g.Latch == w.Latch}, {"Ram", g.Ram == w.Ram}, {"File", g.File == w.File}, {"Vce", g.Vce == w.Vce}, {"Psg", g.Psg == w.Psg},
		{"Timer", g.Timer == w.Timer}, {"Irq", g.Irq == w.Irq}, {"Port", g.Port == w.Port}, {"Pads", g.Pads == w.Pads}, {"Hold", g.Hold == w.Hold}, {"Lag", g.Lag == w.Lag},
	}
	for _, part := range parts {
		if !part.same {
			t.Errorf("%s is another", part.name)
		}
	}
	t.Logf("Regs %x, want %x; Irq %v, want %v; Hold %d, want %d; Status %d, want %d; Lag %d, want %d", g.Regs, w.Regs, g.Irq, w.Irq, g.Hold, w.Hold, g.Status, w.Status, g.Lag, w.Lag)
}

// TestNewOfNone: P24.1, no machine without a card.
func TestNewOfNone(t *testing.T) {
	for _, c := range []*card.Card{nil, {}, new(card.Card)} {
		if b := New(c); b != nil {
			t.Errorf("New of %v is a machine", c)
		}
	}
}

// TestNew: P24.1, each field of a machine, of each kind of card.
func TestNew(t *testing.T) {
	for _, pages := range cards {
		c := load(t, pages)
		b := New(c)
		if b == nil {
			t.Fatalf("New of %d pages is nil", pages)
		}
		if b.Card != c || b.Latch != 0 || b.Ram != [8192]byte{} || b.Hold != 255 || b.Lag != 0 {
			t.Errorf("%d pages: Card, Latch, Ram, Hold or Lag", pages)
		}
		if b.Regs != (regs.Regs{}) || b.Table != [256]int{} || b.Status != 0 || b.Wait || b.Moved {
			t.Errorf("%d pages: Regs, Table, Status, Wait or Moved", pages)
		}
		if b.File != (mpr.File{0, 248, 0, 0, 0, 0, 0, 0}) || b.Vce != (vce.Vce{}) || b.Timer != (timer.Timer{}) || b.Irq != (irq.State{}) {
			t.Errorf("%d pages: File, Vce, Timer or Irq", pages)
		}
		if b.Port != (pad.Port{}) || b.Pads != [5]pad.Pad{} {
			t.Errorf("%d pages: Port or Pads", pages)
		}
		var sound psg.Psg
		for k := range sound.C {
			sound.C[k].Rand = 1
		}
		if b.Psg != sound {
			t.Errorf("%d pages: Psg %v", pages, b.Psg)
		}
		if b.Vram == nil || *b.Vram != *vram.New() || len(b.Vram.Words(0, api.Words)) != api.Words {
			t.Errorf("%d pages: Vram", pages)
		}
	}
}

// TestNewIsApart: P24.1, two machines of one card share nothing that changes.
func TestNewIsApart(t *testing.T) {
	c := load(t, 1)
	one, other := New(c), New(c)
	one.Vram.Poke(5, 7)
	one.Write(0x1f0000, 9)
	if other.Vram.Word(5) != 0 || other.Read(0x1f0000) != 0 {
		t.Error("what was written to one machine is read of the other")
	}
}

// TestSettle: P24.2, the timer by its lag, written out.
func TestSettle(t *testing.T) {
	off := timer.Timer{Reload: 5, Count: 3}
	on := func(reload, count, pre int) timer.Timer {
		return timer.Timer{Reload: reload, Count: count, On: true, Pre: pre}
	}
	cases := []struct {
		before timer.Timer
		lag    int
		after  timer.Timer
		round  bool
	}{
		{on(5, 3, 7), 0, on(5, 3, 7), false},
		{on(5, 0, 3071), 0, on(5, 0, 3071), false},
		{on(5, 0, 3071), -1, on(5, 0, 3071), false},
		{on(5, 0, 3071), -3072, on(5, 0, 3071), false},
		{on(5, 0, 3071), math.MinInt, on(5, 0, 3071), false},
		{on(5, 0, 3071), math.MaxInt, on(5, 0, 3071), false},
		{on(5, 0, 3071), 1<<40 + 1, on(5, 0, 3071), false},
		{on(5, 3, 7), 1, on(5, 3, 8), false},
		{on(5, 3, 7), 3064, on(5, 3, 3071), false},
		{on(5, 3, 7), 3065, on(5, 2, 0), false},
		{on(5, 0, 0), 3071, on(5, 0, 3071), false},
		{on(5, 0, 0), 3072, on(5, 5, 0), true},
		{on(5, 0, 3071), 1, on(5, 5, 0), true},
		{on(5, 0, 3071), 2, on(5, 5, 1), true},
		{on(5, 3, 0), 4*3072 - 1, on(5, 0, 3071), false},
		{on(5, 3, 0), 4 * 3072, on(5, 5, 0), true},
		{on(5, 3, 0), 4*3072 + 100*6*3072 + 3073, on(5, 4, 1), true},
		{on(0, 0, 0), 3071, on(0, 0, 3071), false},
		{on(0, 0, 0), 3072 * 1000, on(0, 0, 0), true},
		{on(127, 127, 0), 128*3072 - 1, on(127, 0, 3071), false},
		{on(127, 127, 0), 128 * 3072, on(127, 127, 0), true},
		{on(0, 0, 0), 1 << 40, on(0, 0, 1<<40%3072), true},
		{off, 1, off, false},
		{off, 0, off, false},
		{off, -5, off, false},
		{off, 1 << 40, off, false},
		{off, math.MaxInt, off, false},
		{off, math.MinInt, off, false},
		{on(128, 0, 3071), 1, on(128, 0, 3071), false},
	}
	b := machine(t, 1)
	for _, c := range cases {
		for mask := range 8 {
			for lines := range 8 {
				b.Timer, b.Lag, b.Irq = c.before, c.lag, irq.State{Mask: mask, Lines: lines}
				want := without(b)
				want.Timer, want.Lag = c.after, 0
				if c.round {
					want.Irq.Lines = lines&3 + 4
				}
				b.Settle()
				if without(b) != want {
					t.Fatalf("%v by %d, Irq %d %d: %v, %v, Lag %d, want %v, %v", c.before, c.lag, mask, lines, b.Timer, b.Irq, b.Lag, want.Timer, want.Irq)
				}
			}
		}
	}
}

// TestSettleLeavesLines: P24.2, where it did not come round nothing is cut from the interrupts; where it did, just three bits are left.
func TestSettleLeavesLines(t *testing.T) {
	b := machine(t, 1)
	b.Irq = irq.State{Mask: 1000, Lines: -8}
	b.Timer, b.Lag = timer.Timer{Reload: 1, Count: 0, On: true, Pre: 0}, 3071
	b.Settle()
	if b.Irq != (irq.State{Mask: 1000, Lines: -8}) {
		t.Errorf("not come round: %v", b.Irq)
	}
	b.Lag = 1
	b.Settle()
	if b.Irq != (irq.State{Mask: 0, Lines: 4}) {
		t.Errorf("come round: %v", b.Irq)
	}
}

// TestSettleTwice: P24.2, what it was behind is gone: settled again, nothing goes on.
func TestSettleTwice(t *testing.T) {
	b := machine(t, 1)
	b.Settle()
	want := twin(b)
	b.Settle()
	expect(t, b, want, "Settle again")
}

// TestTell: P24.2, each bit, and bits beside the status's, with and without the line, from each status.
func TestTell(t *testing.T) {
	if Hit != 1 || Over != 2 || Raster != 4 || Taken != 8 || Moves != 16 || Blank != 32 {
		t.Error("the bits of the status")
	}
	bitsTold := []int{0, 1, 2, 4, 8, 16, 32, 63, 21, 64, 127, 128, 256, 1 << 20, 1 << 62, -1, math.MaxInt, math.MinInt}
	statuses := []int{0, 1, 2, 4, 8, 16, 32, 63, 42, 64, 256, -1, math.MaxInt, math.MinInt}
	b := machine(t, 1)
	memory := *b.Vram
	for _, bit := range bitsTold {
		for _, status := range statuses {
			for lines := range 8 {
				for _, may := range []bool{false, true} {
					b.Status, b.Irq = status, irq.State{Mask: 7 - lines, Lines: lines}
					want := without(b)
					want.Status = status | bit
					if may {
						want.Irq.Lines = []int{2, 3, 2, 3, 6, 7, 6, 7}[lines]
					}
					b.Tell(bit, may)
					if without(b) != want {
						t.Fatalf("Tell(%d, %v) of Status %d, Lines %d: %d, %v, want %d, %v", bit, may, status, lines, b.Status, b.Irq, want.Status, want.Irq)
					}
				}
			}
		}
	}
	if *b.Vram != memory {
		t.Error("Tell changed the video memory")
	}
}

// TestTellByEach: P24.2, the status gathers what is told, written out.
func TestTellByEach(t *testing.T) {
	b := New(load(t, 1))
	steps := []struct {
		bit           int
		may           bool
		status, lines int
	}{{Hit, false, 1, 0}, {Raster, false, 5, 0}, {Hit, false, 5, 0}, {Blank, true, 37, 2}, {Moves, false, 53, 2}, {Over, true, 55, 2}, {Taken, true, 63, 2}}
	for _, s := range steps {
		b.Tell(s.bit, s.may)
		if b.Status != s.status || b.Irq != (irq.State{Lines: s.lines}) {
			t.Errorf("Tell(%d, %v): %d, %v", s.bit, s.may, b.Status, b.Irq)
		}
	}
}

// TestTellLeavesLines: P24.2, where it may not, nothing is cut from the interrupts; where it may, just three bits are left.
func TestTellLeavesLines(t *testing.T) {
	b := machine(t, 1)
	b.Irq = irq.State{Mask: 1001, Lines: -8}
	b.Tell(1, false)
	if b.Irq != (irq.State{Mask: 1001, Lines: -8}) {
		t.Errorf("it may not: %v", b.Irq)
	}
	b.Tell(1, true)
	if b.Irq != (irq.State{Mask: 1, Lines: 2}) {
		t.Errorf("it may: %v", b.Irq)
	}
}

// shownPage is the page of a card that a page of the bus shows, as chapter 4 has it.
func shownPage(pages, latch, page int) int {
	switch {
	case pages == 48 && page < 64:
		return page % 32
	case pages == 48:
		return 32 + page%16
	case pages == 96 && page >= 64:
		return 64 + page%32
	case pages == 320 && page >= 64:
		return 64*modulo(latch, 4) + page
	case pages == 96 || pages == 320:
		return page
	}
	return page % pages
}

// TestReadRom: P24.3, each page of the bus, of each kind of card, with each latch.
func TestReadRom(t *testing.T) {
	for _, pages := range cards {
		bytes := image(pages)
		b := machine(t, pages)
		for _, latch := range []int{0, 1, 2, 3, 4, 7, -1, -4, math.MaxInt, math.MinInt} {
			b.Latch = latch
			before := without(b)
			for page := range 128 {
				for _, at := range []int{0, 1, 2, 255, 256, 4095, 5000, 8175, 8176, 8179, 8180, 8190, 8191} {
					want := int(bytes[shownPage(pages, latch, page)*8192+at])
					if got := b.Read(page*8192 + at); got != want {
						t.Fatalf("%d pages, Latch %d: Read(%x) = %d, want %d", pages, latch, page*8192+at, got, want)
					}
				}
			}
			if without(b) != before {
				t.Errorf("%d pages, Latch %d: Read changed the machine", pages, latch)
			}
		}
	}
}

// TestReadRomWhole: P24.3, each byte of a page.
func TestReadRomWhole(t *testing.T) {
	bytes := image(320)
	b := machine(t, 320)
	b.Latch = 3
	for at := range 8192 {
		if got := b.Read(127*8192 + at); got != int(bytes[319*8192+at]) {
			t.Fatalf("Read(%x) = %d", 127*8192+at, got)
		}
	}
}

// TestRam: P24.3 and P24.5, each byte at all of its places, and nothing changed by a look.
func TestRam(t *testing.T) {
	b := machine(t, 1)
	before := without(b)
	for page := 248; page <= 251; page++ {
		for at := range 8192 {
			if got, want := b.Read(page*8192+at), int(byte(at*5+at/256*3+1)); got != want {
				t.Fatalf("Read(%x) = %d, want %d", page*8192+at, got, want)
			}
		}
	}
	if without(b) != before {
		t.Error("Read changed the machine")
	}
}

// TestReadStatus: P24.3 and P24.5, the status is told, and gone, and its line is down, at each of its places.
func TestReadStatus(t *testing.T) {
	b := machine(t, 1)
	want := twin(b)
	statuses := []int{256, 383, 384, 1000, -1, -128, -129, math.MaxInt, math.MinInt, math.MinInt + 5}
	for status := range 256 {
		statuses = append(statuses, status)
	}
	for _, status := range statuses {
		for lines := range 8 {
			b.Status, b.Irq = status, irq.State{Mask: 7 - lines, Lines: lines}
			want.Status, want.Irq = 0, irq.State{Mask: 7 - lines, Lines: []int{0, 1, 0, 1, 4, 5, 4, 5}[lines]}
			place := vdcPort + 4*modulo(status, 256)
			if got := b.Read(place); got != modulo(status, 128) {
				t.Fatalf("Status %d: Read(%x) = %d, want %d", status, place, got, modulo(status, 128))
			}
			if without(b) != without(want) {
				t.Fatalf("Status %d, Lines %d: the machine is %v, %v", status, lines, b.Status, b.Irq)
			}
			if got := b.Read(place); got != 0 {
				t.Fatalf("Status %d, read again: %d", status, got)
			}
		}
	}
	expect(t, b, want, "Read of the status")
}

// TestReadVideoNothing: P24.3, at 1 nothing is read, and nothing is changed.
func TestReadVideoNothing(t *testing.T) {
	b := machine(t, 1)
	want := twin(b)
	for k := range 256 {
		if got := b.Read(vdcPort + 4*k + 1); got != 0 {
			t.Errorf("Read(%x) = %d", vdcPort+4*k+1, got)
		}
	}
	expect(t, b, want, "Read of the picture's port 1")
}

// TestReadVideoWords: P24.3, the low byte stays, the high one goes on by the step, whichever register is chosen.
func TestReadVideoWords(t *testing.T) {
	for sel := range 32 {
		for _, step := range []int{1, 32, 64, 128} {
			b := New(load(t, 1))
			b.Regs.Sel = sel
			for k := range 4 {
				b.Vram.Poke(100+k*step, 0x1234+k*0x1111)
			}
			b.Vram.SetRead(100)
			b.Vram.SetStep(step)
			b.Vram.SetWrite(7)
			for k := range 4 {
				want := twin(b)
				w := 0x1234 + k*0x1111
				low, again := b.Read(vdcPort+2+4*k), b.Read(vdcPort+2)
				expect(t, b, want, "Read of the low byte", sel, step)
				high := b.Read(vdcPort + 3 + 4*k)
				if low != w%256 || again != low || high != w/256 {
					t.Errorf("word %d by %d: %x, %x, %x, want %x", k, step, low, again, high, w)
				}
				want.Vram.SetRead(100 + (k+1)*step)
				expect(t, b, want, "Read of the high byte", sel, step)
			}
		}
	}
}

// TestReadColours: P24.3, the colours' ports, and Addr behind them.
func TestReadColours(t *testing.T) {
	b := machine(t, 1)
	for k := range 128 {
		for at := range 8 {
			for _, addr := range []int{0, 1, 255, 256, 300, 511, 512, -1} {
				b.Vce.Addr = addr
				want, told := without(b), 255
				colour := b.Vce.Table[modulo(addr, 512)]
				switch at {
				case 4:
					told = colour % 256
				case 5:
					told = 254 + colour/256
					want.Vce.Addr = modulo(addr+1, 512)
				}
				if got := b.Read(vcePort + 8*k + at); got != told {
					t.Fatalf("Addr %d: Read(%x) = %d, want %d", addr, vcePort+8*k+at, got, told)
				}
				if without(b) != want {
					t.Fatalf("Addr %d: Read(%x): Addr is %d", addr, vcePort+8*k+at, b.Vce.Addr)
				}
			}
		}
	}
}

// TestReadSound: P24.3, what is held is told, and stays, at each of the sound's places.
func TestReadSound(t *testing.T) {
	b := machine(t, 1)
	for place := psgPort; place < timerPort; place++ {
		b.Hold = place % 251
		want := without(b)
		if got := b.Read(place); got != place%251 {
			t.Fatalf("Read(%x) = %d, want %d", place, got, place%251)
		}
		if without(b) != want {
			t.Fatalf("Read(%x) changed the machine", place)
		}
	}
}

// TestReadTimer: P24.3, the count below the bit that is held, each count with each byte.
func TestReadTimer(t *testing.T) {
	b := machine(t, 1)
	b.Lag = 0
	for count := range 128 {
		for hold := range 256 {
			b.Timer.Count, b.Hold = count, hold
			want := without(b)
			want.Hold = hold/128*128 + count
			place := timerPort + (count*256+hold)%1024
			if got := b.Read(place); got != want.Hold {
				t.Fatalf("Count %d, Hold %d: Read(%x) = %d, want %d", count, hold, place, got, want.Hold)
			}
			if without(b) != want {
				t.Fatalf("Count %d, Hold %d: the machine is another", count, hold)
			}
		}
	}
}

// TestReadTimerSettles: P24.3, the timer is settled ahead of a look at it, at both of its places.
func TestReadTimerSettles(t *testing.T) {
	for at := range 2 {
		b := machine(t, 1)
		b.Timer, b.Lag, b.Hold = timer.Timer{Reload: 9, Count: 0, On: true, Pre: 3000}, 72+3072, 0xf3
		want := twin(b)
		want.Timer, want.Lag, want.Hold = timer.Timer{Reload: 9, Count: 8, On: true}, 0, 0x88
		want.Irq.Lines = 7
		if got := b.Read(timerPort + at); got != 0x88 {
			t.Errorf("at %d: %x", at, got)
		}
		expect(t, b, want, "Read of the timer", at)
	}
}

// TestReadPad: P24.3, the pads at home, at each place, and what is held behind that.
func TestReadPad(t *testing.T) {
	b := machine(t, 1)
	cases := []struct {
		port pad.Port
		told int
	}{
		{pad.Port{}, 0xfe},
		{pad.Port{Sel: true}, 0xfd},
		{pad.Port{Sel: true, Clr: true, Second: true}, 0xfd},
		{pad.Port{Index: 1}, 0xfd},
		{pad.Port{Index: 1, Sel: true}, 0xfb},
		{pad.Port{Index: 2}, 0xfb},
		{pad.Port{Index: 2, Sel: true}, 0xfa},
		{pad.Port{Index: 2, Second: true}, 0xfc},
		{pad.Port{Index: 2, Sel: true, Second: true}, 0xf0},
		{pad.Port{Index: 3}, 0xfe},
		{pad.Port{Index: 4}, 0xf0},
		{pad.Port{Index: 4, Second: true}, 0xff},
		{pad.Port{Index: 5}, 0xff},
		{pad.Port{Index: -1}, 0xff},
	}
	for _, c := range cases {
		for place := padPort; place < irqPort; place++ {
			b.Port, b.Hold = c.port, place%256
			want := without(b)
			want.Hold = c.told
			if got := b.Read(place); got != c.told {
				t.Fatalf("%v: Read(%x) = %x, want %x", c.port, place, got, c.told)
			}
			if without(b) != want {
				t.Fatalf("%v: Read(%x): the machine is another", c.port, place)
			}
		}
	}
}

// TestReadInterrupts: P24.3, the mask and the lines below the five bits that are held; at 0 and 1 all that is held.
func TestReadInterrupts(t *testing.T) {
	b := machine(t, 1)
	b.Lag = 0
	for mask := range 8 {
		for lines := range 8 {
			for hold := range 256 {
				for at := range 4 {
					b.Irq, b.Hold = irq.State{Mask: mask, Lines: lines}, hold
					want := without(b)
					want.Hold = []int{hold, hold, hold/8*8 + mask, hold/8*8 + lines}[at]
					place := irqPort + hold*4 + at
					if got := b.Read(place); got != want.Hold {
						t.Fatalf("Mask %d, Lines %d, Hold %d: Read(%x) = %d, want %d", mask, lines, hold, place, got, want.Hold)
					}
					if without(b) != want {
						t.Fatalf("Mask %d, Lines %d, Hold %d: Read(%x): the machine is another", mask, lines, hold, place)
					}
				}
			}
		}
	}
}

// TestReadInterruptsSettles: P24.3, at 2 and 3 the timer is settled ahead of a look; at 0 and 1 it stays behind.
func TestReadInterruptsSettles(t *testing.T) {
	told := []int{0x5f, 0x5f, 0x59, 0x5f}
	for at := range 4 {
		b := machine(t, 1)
		b.Timer, b.Lag, b.Hold = timer.Timer{Reload: 9, Count: 0, On: true, Pre: 3000}, 72, 0x5f
		want := twin(b)
		want.Hold = told[at]
		if at >= 2 {
			want.Timer, want.Lag = timer.Timer{Reload: 9, Count: 9, On: true}, 0
			want.Irq.Lines = 7
		}
		if got := b.Read(irqPort + at); got != told[at] {
			t.Errorf("at %d: %x, want %x", at, got, told[at])
		}
		expect(t, b, want, "Read of the interrupts", at)
	}
}

// openPlaces are some of each stretch where nothing stands, and numbers that are no places.
func openPlaces() []int {
	places := append([]int{}, outside...)
	for page := 128; page < 255; page++ {
		if page < 248 || page > 251 {
			places = append(places, page*8192, page*8192+5, page*8192+8176, page*8192+8191)
		}
	}
	return append(places, 0x1ff800, 0x1ff802, 0x1ffbff, 0x1ffc00, 0x1fffff)
}

// TestReadOpen: P24.3, where nothing stands, and outside the bus.
func TestReadOpen(t *testing.T) {
	b := machine(t, 320)
	want := twin(b)
	for _, place := range openPlaces() {
		if got := b.Read(place); got != 255 {
			t.Errorf("Read(%x) = %d", place, got)
		}
	}
	expect(t, b, want, "Read where nothing stands")
}

// TestReadHeld: P24.3, which looks change what is held.
func TestReadHeld(t *testing.T) {
	for _, place := range []int{0, 5, 0x0fffff, 0x1f0000, 0x1f7fff, vdcPort, vdcPort + 1, vdcPort + 2, vdcPort + 3, vcePort, vcePort + 4, vcePort + 5, psgPort, psgPort + 15, irqPort, irqPort + 1, 0x1ff800, 0x100000, -1} {
		b := machine(t, 1)
		b.Read(place)
		if b.Hold != 0xa5 {
			t.Errorf("Read(%x): Hold is %x", place, b.Hold)
		}
	}
	for _, c := range [][2]int{{timerPort, 0x84}, {timerPort + 1, 0x84}, {padPort, 0xfb}, {irqPort + 2, 0xa1}, {irqPort + 3, 0xa3}} {
		b := machine(t, 1)
		if b.Read(c[0]); b.Hold != c[1] {
			t.Errorf("Read(%x): Hold is %x, want %x", c[0], b.Hold, c[1])
		}
		if got := b.Read(psgPort + 3); got != c[1] {
			t.Errorf("Read(%x), and then of the sound: %x, want %x", c[0], got, c[1])
		}
	}
}

// TestWriteRom: P24.4 and P24.5, just the latch is changed, by the latch's places of a Banked card.
func TestWriteRom(t *testing.T) {
	places := map[int]int{0x1ff0: 0, 0x1ff1: 1, 0x1ff2: 2, 0x1ff3: 3}
	for _, pages := range cards {
		b := machine(t, pages)
		for _, latch := range []int{0, 1, 2, 3, 9, -1} {
			for page := range 128 {
				for _, at := range []int{0, 1, 0xff0, 0x1fe0, 0x1fee, 0x1fef, 0x1ff0, 0x1ff1, 0x1ff2, 0x1ff3, 0x1ff4, 0x1ff5, 0x1fff} {
					b.Latch = latch
					want := without(b)
					if n, ok := places[at]; ok && pages == 320 {
						want.Latch = n
					}
					b.Write(page*8192+at, 255-latch)
					if without(b) != want {
						t.Fatalf("%d pages: Write(%x): Latch %d, want %d", pages, page*8192+at, b.Latch, want.Latch)
					}
				}
			}
		}
	}
}

// TestWriteRomOfAll: P24.4, what is written there is of no weight.
func TestWriteRomOfAll(t *testing.T) {
	b := machine(t, 320)
	for _, v := range written() {
		b.Latch = 1
		want := without(b)
		want.Latch = 3
		if b.Write(0x1ff3, v); without(b) != want {
			t.Fatalf("Write of %d: Latch %d", v, b.Latch)
		}
	}
}

// TestWriteRomReads: P24.5, what is read of a card is changed by the latch alone.
func TestWriteRomReads(t *testing.T) {
	for _, pages := range cards {
		bytes := image(pages)
		b := machine(t, pages)
		for at := 0; at < 128*8192; at += 61 {
			b.Write(at, ^b.Read(at))
		}
		b.Write(0x1ff1, 99)
		latch := 2
		if pages == 320 {
			latch = 1
		}
		if b.Latch != latch {
			t.Errorf("%d pages: Latch %d", pages, b.Latch)
		}
		for place := 0; place < 128*8192; place += 61 {
			if got, want := b.Read(place), int(bytes[shownPage(pages, latch, place/8192)*8192+place%8192]); got != want {
				t.Fatalf("%d pages: Read(%x) = %d, want %d", pages, place, got, want)
			}
		}
	}
}

// TestWriteRam: P24.4 and P24.5, what is written at one of a byte's places is read at all of them.
func TestWriteRam(t *testing.T) {
	b := machine(t, 1)
	for _, at := range []int{0, 1, 5, 255, 256, 4096, 8176, 8191} {
		for page := 248; page <= 251; page++ {
			for _, v := range written() {
				want := without(b)
				want.Ram[at] = byte(modulo(v, 256))
				b.Write(page*8192+at, v)
				if without(b) != want {
					t.Fatalf("Write(%x, %d): the machine is another", page*8192+at, v)
				}
				for other := 248; other <= 251; other++ {
					if got := b.Read(other*8192 + at); got != modulo(v, 256) {
						t.Fatalf("Write(%x, %d): Read(%x) = %d", page*8192+at, v, other*8192+at, got)
					}
				}
			}
		}
	}
}

// TestWriteRamWhole: P24.4, each byte by itself.
func TestWriteRamWhole(t *testing.T) {
	b := machine(t, 1)
	for at := range 8192 {
		b.Write((248+at%4)*8192+at, at*3+at/256)
	}
	for at := range 8192 {
		if got := int(b.Ram[at]); got != (at*3+at/256)%256 {
			t.Fatalf("Ram at %d is %d", at, got)
		}
	}
}

// TestChoose: P24.4, a write at 0 chooses a register, and does nothing else, whichever was chosen.
func TestChoose(t *testing.T) {
	b := machine(t, 1)
	memory := *b.Vram
	for sel := range 32 {
		for i, v := range written() {
			b.Regs.Sel = sel
			want := without(b)
			want.Regs.Sel = modulo(v, 32)
			if b.Write(vdcPort+i%256*4, v); without(b) != want {
				t.Fatalf("Sel %d, Write of %d: Sel %d, want %d", sel, v, b.Regs.Sel, want.Regs.Sel)
			}
		}
	}
	if *b.Vram != memory {
		t.Error("the video memory is another")
	}
}

// TestWriteVideoNothing: P24.4, a write at 1 does nothing.
func TestWriteVideoNothing(t *testing.T) {
	b := machine(t, 1)
	for sel := range 32 {
		b.Regs.Sel = sel
		want := twin(b)
		for i, v := range written() {
			b.Write(vdcPort+i%256*4+1, v)
		}
		expect(t, b, want, "Write at 1", sel)
	}
}

// may is the bits that each register may have, as chapter 15 has them.
var may = [20]int{0xffff, 0xffff, 0xffff, 0, 0, 0x1fff, 0x3ff, 0x3ff, 0x1ff, 0xff, 0x7f1f, 0x7f7f, 0xff1f, 0x1ff, 0xff, 0x1f, 0xffff, 0xffff, 0xffff, 0xffff}

// wantVideo does to a machine what P24.4 says of a write at 2 or 3, with the register that is chosen.
func wantVideo(b *Bus, at, v int) {
	sel, r := b.Regs.Sel, &b.Regs.R
	if sel < 0 || sel > 19 {
		return
	}
	low, high := r[sel]%256, r[sel]/256
	if at == 2 {
		low = v
	} else {
		high = v
	}
	r[sel] = (low + 256*high) & may[sel]
	switch {
	case sel == 8:
		b.Moved = true
	case sel == 0:
		b.Vram.SetWrite(r[0])
	case sel == 1 && at == 3:
		b.Vram.SetRead(r[1])
	case sel == 2:
		b.Vram.Put(at == 3, v)
	case sel == 5 && at == 3:
		b.Vram.SetStep([]int{1, 32, 64, 128}[r[5]/2048%4])
	case sel == 18 && at == 3:
		ends := dma.Move(b.Vram, [2]int{r[16], r[17]}, r[18], r[15])
		r[16], r[17], r[18] = ends[0], ends[1], 65535
		b.Status |= 16
		if r[15]/2%2 == 1 {
			b.Irq.Lines |= 2
		}
	case sel == 19 && at == 3:
		b.Wait = true
	}
}

// TestWriteRegisters: P24.4, each register, and none, with low and high bytes, and all else as it was.
func TestWriteRegisters(t *testing.T) {
	begin := machine(t, 1)
	for _, sel := range []int{0, 1, 2, 3, 4, 5, 6, 7, 8, 9, 10, 11, 12, 13, 14, 15, 16, 17, 18, 19, 20, 21, 30, 31, 32, -1, math.MaxInt, math.MinInt} {
		for at := 2; at <= 3; at++ {
			b := twin(begin)
			b.Regs.Sel = sel
			want := twin(b)
			for i, v := range written() {
				if sel == 18 && at == 3 && modulo(v, 256) > 2 && i%16 != 0 {
					continue // so that not each of the long moves is made
				}
				b.Write(vdcPort+i%256*4+at, v)
				wantVideo(want, at, modulo(v, 256))
				if without(b) != without(want) {
					expect(t, b, want, "Write", sel, at, v)
					return
				}
				if i%64 == 0 && *b.Vram != *want.Vram {
					t.Fatalf("register %d, at %d, of %d: the video memory is another", sel, at, v)
				}
			}
			expect(t, b, want, "Write", sel, at)
		}
	}
}

// put writes to a register of the picture, both bytes, the low one first.
func put(b *Bus, register, w int) {
	b.Write(vdcPort, register)
	b.Write(vdcPort+2, w%256)
	b.Write(vdcPort+3, w/256)
}

func ports(b *Bus) [5]int {
	write, read, step, low, buffer := b.Vram.Ports()
	return [5]int{write, read, step, low, buffer}
}

// TestSetWrite: P24.4, either byte of register 0 sets the write place.
func TestSetWrite(t *testing.T) {
	b := New(load(t, 1))
	b.Write(vdcPort, 0)
	b.Write(vdcPort+2, 0x34)
	if ports(b) != [5]int{0x34, 0, 1, 0, 0} {
		t.Errorf("the low byte: %x", ports(b))
	}
	b.Write(vdcPort+3, 0x12)
	if ports(b) != [5]int{0x1234, 0, 1, 0, 0} {
		t.Errorf("the high byte: %x", ports(b))
	}
	b.Write(vdcPort+2, 0xff)
	if ports(b) != [5]int{0x12ff, 0, 1, 0, 0} {
		t.Errorf("the low byte again: %x", ports(b))
	}
}

// TestSetRead: P24.4, the high byte of register 1 alone sets the read place, and the word is fetched.
func TestSetRead(t *testing.T) {
	b := New(load(t, 1))
	b.Vram.Poke(0x1234, 0xbeef)
	b.Vram.Poke(0x34, 0xdead)
	b.Write(vdcPort, 1)
	b.Write(vdcPort+2, 0x34)
	if ports(b) != [5]int{0, 0, 1, 0, 0} {
		t.Errorf("the low byte: %x", ports(b))
	}
	b.Write(vdcPort+3, 0x12)
	if ports(b) != [5]int{0, 0x1234, 1, 0, 0xbeef} {
		t.Errorf("the high byte: %x", ports(b))
	}
}

// TestPutWords: P24.4, the low byte is held, the high one writes the word, and the place goes on by the step.
func TestPutWords(t *testing.T) {
	b := New(load(t, 1))
	put(b, 0, 0x100)
	b.Write(vdcPort, 2)
	b.Write(vdcPort+2, 0x34)
	if ports(b) != [5]int{0x100, 0, 1, 0x34, 0} || b.Vram.Word(0x100) != 0 {
		t.Errorf("the low byte: %x, %x", ports(b), b.Vram.Word(0x100))
	}
	b.Write(vdcPort+3, 0x12)
	if ports(b) != [5]int{0x101, 0, 1, 0x34, 0} || b.Vram.Word(0x100) != 0x1234 {
		t.Errorf("the high byte: %x, %x", ports(b), b.Vram.Word(0x100))
	}
	b.Write(vdcPort+3, 0x56)
	if b.Vram.Word(0x101) != 0x5634 || b.Regs.R[2] != 0x5634 {
		t.Errorf("a high byte more: %x, register 2 is %x", b.Vram.Word(0x101), b.Regs.R[2])
	}
}

// TestSteps: P24.4, the high byte of register 5 alone sets the step.
func TestSteps(t *testing.T) {
	for v, step := range []int{1, 32, 64, 128} {
		b := New(load(t, 1))
		b.Write(vdcPort, 5)
		b.Vram.SetStep(99)
		b.Write(vdcPort+2, 0xff)
		if ports(b)[2] != 99 {
			t.Errorf("the low byte: a step of %d", ports(b)[2])
		}
		b.Write(vdcPort+3, v*8)
		if ports(b) != [5]int{0, 0, step, 0, 0} || b.Regs.R[5] != 0xff+v*0x800 {
			t.Errorf("the high byte %d: %d, register 5 is %x", v*8, ports(b), b.Regs.R[5])
		}
		put(b, 0, 0x200)
		put(b, 2, 0x1111)
		put(b, 2, 0x2222)
		if b.Vram.Word(0x200) != 0x1111 || b.Vram.Word(0x200+step) != 0x2222 {
			t.Errorf("by %d: words did not go there", step)
		}
	}
}

// TestMoves: P24.4, each way of register 15, the registers behind a move, the status and the line.
func TestMoves(t *testing.T) {
	for control := range 32 {
		b := New(load(t, 1))
		for at := range 1000 {
			b.Vram.Poke(at, 5000+at)
		}
		put(b, 15, control)
		put(b, 16, 300)
		put(b, 17, 600)
		b.Write(vdcPort, 18)
		b.Write(vdcPort+2, 3)
		if b.Vram.Word(600) != 5600 || b.Status != 0 || b.Regs.R[18] != 3 {
			t.Errorf("control %x: the low byte moves", control)
		}
		b.Write(vdcPort+3, 0)
		from, to := 1-control/4%2*2, 1-control/8%2*2
		for k := range 4 {
			if got := b.Vram.Word(600 + k*to); got != 5300+k*from {
				t.Errorf("control %x: the word %d moved is %d, want %d", control, k, got, 5300+k*from)
			}
		}
		if b.Vram.Word(600-to) != 5600-to || b.Vram.Word(600+4*to) != 5600+4*to {
			t.Errorf("control %x: words beside are others", control)
		}
		if b.Regs.R[15] != control || b.Regs.R[16] != 300+4*from || b.Regs.R[17] != 600+4*to || b.Regs.R[18] != 65535 {
			t.Errorf("control %x: registers %d", control, b.Regs.R[15:19])
		}
		if b.Status != 16 || b.Irq != (irq.State{Lines: control & 2}) {
			t.Errorf("control %x: Status %d, %v", control, b.Status, b.Irq)
		}
		if b.Wait || b.Moved || b.Hold != 255 || ports(b) != [5]int{0, 0, 1, 0, 0} {
			t.Errorf("control %x: something else is another", control)
		}
	}
}

// TestMoveAgain: P24.4, a high byte more moves as many words as the registers say then; the status has what it had, and lines stay.
func TestMoveAgain(t *testing.T) {
	b := New(load(t, 1))
	b.Vram.Poke(0, 0x1234)
	b.Status, b.Irq.Lines, b.Regs.R[17] = 9, 5, 1
	b.Write(vdcPort, 18)
	b.Write(vdcPort+3, 1)
	if b.Regs.R[16] != 257 || b.Regs.R[17] != 258 || b.Vram.Word(257) != 0x1234 || b.Vram.Word(258) != 0 || b.Status != 25 || b.Irq.Lines != 5 {
		t.Errorf("257 words: %d, %x, %x, Status %d, %v", b.Regs.R[16:19], b.Vram.Word(257), b.Vram.Word(258), b.Status, b.Irq)
	}
	b.Write(vdcPort+3, 0)
	if b.Regs.R[16] != 257+256 || b.Regs.R[17] != 258+256 || b.Regs.R[18] != 65535 {
		t.Errorf("256 words: %d", b.Regs.R[16:19])
	}
}

// TestMoveRound: P24.4, ends go round behind the last place.
func TestMoveRound(t *testing.T) {
	b := New(load(t, 1))
	put(b, 16, 65535)
	put(b, 17, 2)
	b.Vram.Poke(0, 77)
	b.Vram.Poke(2, 88)
	put(b, 18, 1)
	if b.Regs.R[16] != 1 || b.Regs.R[17] != 4 || b.Vram.Word(2) != 0 || b.Vram.Word(3) != 77 {
		t.Errorf("%d, %d, %d", b.Regs.R[16:19], b.Vram.Word(2), b.Vram.Word(3))
	}
}

// TestSat: P24.4, the high byte of register 19 alone asks for the table.
func TestSat(t *testing.T) {
	b := New(load(t, 1))
	b.Write(vdcPort, 19)
	b.Write(vdcPort+2, 0x34)
	if b.Wait {
		t.Error("the low byte asks for the table")
	}
	b.Write(vdcPort+3, 0x12)
	if !b.Wait || b.Regs.R[19] != 0x1234 || b.Table != [256]int{} || b.Status != 0 {
		t.Errorf("the high byte: %v, %x", b.Wait, b.Regs.R[19])
	}
}

// TestMoved: P24.4, just writes at 2 and 3 with the register 8 chosen move the background.
func TestMoved(t *testing.T) {
	for sel := range 32 {
		for at := range 4 {
			for _, v := range []int{0, 8, 255} {
				b := New(load(t, 1))
				b.Regs.Sel = sel
				b.Write(vdcPort+at, v)
				if want := sel == 8 && at >= 2; b.Moved != want {
					t.Errorf("register %d, at %d, of %d: %v", sel, at, v, b.Moved)
				}
				b.Moved, b.Wait = true, true
				b.Write(vdcPort+at, v)
				if !b.Moved || !b.Wait {
					t.Errorf("register %d, at %d, of %d: Moved or Wait is gone", sel, at, v)
				}
			}
		}
	}
}

// TestWriteColours: P24.4, each of the colours' ports, of all bytes, and others.
func TestWriteColours(t *testing.T) {
	b := machine(t, 1)
	begin := b.Vce
	for at := range 8 {
		for i, v := range written() {
			b.Vce = begin
			want, n := without(b), modulo(v, 256)
			switch at {
			case 0:
				want.Vce.Control = n
			case 2:
				want.Vce.Addr = 256 + n
			case 3:
				want.Vce.Addr = 300 - 256 + n%2*256
			case 4:
				want.Vce.Table[300] = begin.Table[300]/256*256 + n
			case 5:
				want.Vce.Table[300], want.Vce.Addr = begin.Table[300]%256+n%2*256, 301
			}
			if b.Write(vcePort+i%128*8+at, v); without(b) != want {
				t.Fatalf("Write at %d of %d: %x %x, want %x %x", at, v, b.Vce.Control, b.Vce.Addr, want.Vce.Control, want.Vce.Addr)
			}
		}
	}
}

// wantSound is what chapter 22 says of a write, with channel 4 chosen, that is not direct.
func wantSound(p psg.Psg, at, n int) psg.Psg {
	c := &p.C[4]
	switch at {
	case 0:
		p.Sel = n % 8
	case 1:
		p.Main = n
	case 2:
		c.Freq = c.Freq/256*256 + n
	case 3:
		c.Freq = c.Freq%256 + n%16*256
	case 4:
		c.Control = n
		if n/64 == 1 {
			c.Index = 0
		}
	case 5:
		c.Balance = n
	case 6:
		c.Wave[c.Index] = n % 32
		c.Index = (c.Index + 1) % 32
	case 7:
		c.Noise = n
	case 8:
		p.LfoFreq = n
	case 9:
		p.LfoControl = n
	}
	return p
}

// TestWriteSound: P24.4, each of the sound's ports, of all bytes, and others; the byte is held.
func TestWriteSound(t *testing.T) {
	b := machine(t, 1)
	b.Psg.Sel = 4
	begin := b.Psg
	for at := range 16 {
		for i, v := range written() {
			b.Psg, b.Hold = begin, 0x3c
			want := without(b)
			want.Psg, want.Hold = wantSound(begin, at, modulo(v, 256)), modulo(v, 256)
			if b.Write(psgPort+i%64*16+at, v); without(b) != want {
				t.Fatalf("Write at %d of %d: the machine is another; Hold %d", at, v, b.Hold)
			}
		}
	}
}

// TestWriteTimer: P24.4, the timer's ports, settled first; the byte is held.
func TestWriteTimer(t *testing.T) {
	b := machine(t, 1)
	for _, on := range []bool{false, true} {
		for at := range 2 {
			for i, v := range written() {
				b.Timer, b.Lag, b.Hold = timer.Timer{Reload: 9, Count: 3, On: on}, 4*3072+5, 1
				b.Irq = irq.State{Mask: 2, Lines: 1}
				n := modulo(v, 256)
				want := without(b)
				want.Lag, want.Hold = 0, n
				if on {
					want.Timer.Count, want.Timer.Pre, want.Irq.Lines = 9, 5, 5
				}
				switch {
				case at == 0:
					want.Timer.Reload = n % 128
				case n%2 == 0:
					want.Timer.On, want.Timer.Pre = false, 0
				case !on:
					want.Timer = timer.Timer{Reload: 9, Count: 9, On: true}
				}
				if b.Write(timerPort+i%512*2+at, v); without(b) != want {
					t.Fatalf("Write at %d of %d, on %v: %v, %v, Hold %d, want %v, %v", at, v, on, b.Timer, b.Irq, b.Hold, want.Timer, want.Irq)
				}
			}
		}
	}
}

// TestWritePad: P24.4, the pads' port, of all bytes, at each place; the byte is held.
func TestWritePad(t *testing.T) {
	b := machine(t, 1)
	// By the lowest two bits of what is written, from a port with neither Sel nor Clr.
	ports := []pad.Port{{Index: 2}, {Sel: true, Index: 3}, {Clr: true, Second: true}, {Sel: true, Clr: true, Second: true}}
	for i, v := range written() {
		for k := range 4 {
			b.Port, b.Hold = pad.Port{Index: 2}, 1
			want := without(b)
			want.Port, want.Hold = ports[modulo(v, 4)], modulo(v, 256)
			place := padPort + (i*4+k)%1024
			if b.Write(place, v); without(b) != want {
				t.Fatalf("Write(%x, %d): %v, Hold %d, want %v", place, v, b.Port, b.Hold, want.Port)
			}
		}
	}
}

// TestWriteInterrupts: P24.4, the interrupts' ports, settled first, also at 0 and 1; the byte is held.
func TestWriteInterrupts(t *testing.T) {
	b := machine(t, 1)
	for at := range 4 {
		for i, v := range written() {
			b.Timer, b.Lag, b.Hold = timer.Timer{Reload: 9, Count: 0, On: true, Pre: 3071}, 1, 1
			b.Irq = irq.State{Mask: 5, Lines: 2}
			n := modulo(v, 256)
			want := without(b)
			want.Timer, want.Lag, want.Hold = timer.Timer{Reload: 9, Count: 9, On: true}, 0, n
			want.Irq.Lines = 6
			switch at {
			case 2:
				want.Irq.Mask = n % 8
			case 3:
				want.Irq.Lines = 2
			}
			if b.Write(irqPort+i%256*4+at, v); without(b) != want {
				t.Fatalf("Write at %d of %d: %v, %v, Hold %d, want %v, %v", at, v, b.Timer, b.Irq, b.Hold, want.Timer, want.Irq)
			}
		}
	}
}

// TestWriteOpen: P24.4, where nothing stands, and outside the bus, nothing is done.
func TestWriteOpen(t *testing.T) {
	b := machine(t, 320)
	want := twin(b)
	for _, place := range openPlaces() {
		for _, v := range []int{0, 1, 7, 255, 256, -1, math.MaxInt, math.MinInt} {
			b.Write(place, v)
		}
		if without(b) != without(want) {
			t.Fatalf("Write(%x) changed the machine", place)
		}
	}
	expect(t, b, want, "Write where nothing stands")
}

// TestWriteHeld: P24.4, which writes are held.
func TestWriteHeld(t *testing.T) {
	for _, place := range []int{0, 0x1ff0, 0x0fffff, 0x1f0000, 0x1f7fff, vdcPort, vdcPort + 1, vdcPort + 2, vdcPort + 3, vcePort, vcePort + 4, vcePort + 7, 0x1ff800, 0x100000, -1} {
		b := machine(t, 320)
		if b.Write(place, 0x5b); b.Hold != 0xa5 {
			t.Errorf("Write(%x): Hold is %x", place, b.Hold)
		}
	}
	for _, place := range []int{psgPort, psgPort + 12, psgPort + 15, timerPort, timerPort + 1, padPort, padPort + 3, irqPort, irqPort + 1, irqPort + 2, irqPort + 3} {
		b := machine(t, 320)
		if b.Write(place, 0x35b); b.Hold != 0x5b || b.Read(psgPort) != 0x5b {
			t.Errorf("Write(%x): Hold is %x", place, b.Hold)
		}
	}
}

// TestWriteLag: P24.4, just the timer and the interrupts are settled ahead of a write; P24.3, and of a look.
func TestWriteLag(t *testing.T) {
	for _, place := range []int{0, 0x1ff0, 0x1f0000, vdcPort, vdcPort + 2, vcePort + 4, psgPort + 4, padPort, 0x1ff800, -1} {
		b := machine(t, 320)
		b.Write(place, 3)
		b.Read(place)
		if b.Lag != 77 || b.Timer.Pre != 100 {
			t.Errorf("at %x: Lag %d, %v", place, b.Lag, b.Timer)
		}
	}
}

// touch makes each call of a machine, and tells whether one of them told something.
func touch(b *Bus, place int) bool {
	told := b.Read(place)
	for _, v := range []int{0, 1, 255, math.MaxInt} {
		b.Write(place, v)
	}
	b.Settle()
	b.Tell(63, true)
	b.Tell(0, false)
	return told != 0
}

// somePlaces are of each kind.
func somePlaces() []int {
	return append(openPlaces(), 0, 5, 0x1ff2, 0xfffff, 0x1f0005, 0x1f7fff, vdcPort, vdcPort+1, vdcPort+2, vdcPort+3, vcePort, vcePort+4, vcePort+5, psgPort, psgPort+1, timerPort, timerPort+1, padPort, irqPort, irqPort+1, irqPort+2, irqPort+3)
}

// TestNil: P24.5, calls of nil end, and tell 0.
func TestNil(t *testing.T) {
	for _, place := range somePlaces() {
		if touch(nil, place) {
			t.Errorf("Read(%x) of nil tells something", place)
		}
	}
}

// TestMadeByNone: P24.5, machines that no call made: 0 is told, and nothing is done.
func TestMadeByNone(t *testing.T) {
	c := load(t, 320)
	full := func() Bus {
		return Bus{Hold: 255, Lag: 5000, Timer: timer.Timer{Reload: 1, On: true}, Psg: psg.Fresh()}
	}
	machines := []Bus{{}, full(), full(), full(), full(), full(), full()}
	machines[2].Card = c
	machines[3].Vram = vram.New()
	machines[4].Card, machines[4].Vram = &card.Card{}, vram.New()
	machines[5].Card, machines[5].Vram = c, &vram.Vram{}
	machines[6].Card, machines[6].Vram = &card.Card{}, &vram.Vram{}
	for k := range machines {
		b, before := &machines[k], machines[k]
		for _, place := range somePlaces() {
			if touch(b, place) {
				t.Errorf("machine %d: Read(%x) tells something", k, place)
			}
			if *b != before {
				t.Fatalf("machine %d: a call at %x changed it", k, place)
			}
		}
	}
}

// TestStepOfNothing: P24.5, a memory that goes on by 0, and has nothing but zeros, makes a machine as well as any other.
func TestStepOfNothing(t *testing.T) {
	b := machine(t, 1)
	memory, ok := vram.Load(make([]int, api.Words), [5]int{})
	if !ok {
		t.Fatal("vram.Load")
	}
	b.Vram = memory
	b.Write(0x1f0000, 99)
	if b.Read(0x1f4000) != 99 || b.Read(-1) != 255 {
		t.Error("a memory with a step of 0 is none")
	}
}

// TestStatusLine: P24.5, the line is down behind a look at the status, and the other lines stay.
func TestStatusLine(t *testing.T) {
	b := New(load(t, 1))
	b.Irq = irq.Raise(b.Irq, irq.Irq2|irq.Clock, true)
	b.Tell(Blank, true)
	b.Tell(Raster, true)
	if _, ok := irq.Pick(b.Irq, 0); !ok || b.Read(irqPort+3) != 0xff {
		t.Errorf("the line is not raised: %v", b.Irq)
	}
	if got := b.Read(vdcPort); got != 36 || b.Irq != (irq.State{Lines: 5}) || b.Status != 0 {
		t.Errorf("the status is %d, and then %v, %d", got, b.Irq, b.Status)
	}
}

// TestExample: P24.5, the chapter's example, and a word by the ports.
func TestExample(t *testing.T) {
	b := New(load(t, 1))
	b.Write(0x1f0005, 7)
	if got := b.Read(0x1f2005); got != 7 {
		t.Errorf("Read(1f2005) = %d", got)
	}
	put(b, 0, 5)
	put(b, 2, 0x1234)
	put(b, 1, 5)
	if low, high := b.Read(vdcPort+2), b.Read(vdcPort+3); low != 0x34 || high != 0x12 || b.Vram.Word(5) != 0x1234 {
		t.Errorf("the word is %x, %x", low, high)
	}
}

// TestWalk: P24.1 to P24.5, long rows of looks and writes at ports, by a rule, tell the same of a machine and of its twin, and leave nothing of the card or of the mapping registers changed.
func TestWalk(t *testing.T) {
	b := machine(t, 320)
	other, begin := twin(b), without(b)
	n := 1
	for range 20000 {
		n = modulo(n*1103515245+12345, 1<<31)
		place, v := 0x1fe000+n/64%0x1c00, n/8192%256
		if place%1024/4*4 == 0 && b.Regs.Sel == 18 {
			b.Write(vdcPort, 2) // long moves would take long
			other.Write(vdcPort, 2)
		}
		b.Lag, other.Lag = n%5000, n%5000
		if n/4%3 == 0 {
			b.Write(place, v)
			other.Write(place, v)
		} else if got, again := b.Read(place), other.Read(place); got != again || got < 0 || got > 255 {
			t.Fatalf("Read(%x) = %d, and of its twin %d", place, got, again)
		}
	}
	expect(t, b, other, "a walk")
	if b.Card != begin.Card || b.File != begin.File || b.Ram != begin.Ram || b.Latch != begin.Latch || b.Pads != begin.Pads || b.Table != begin.Table {
		t.Error("something is changed that stands behind no port")
	}
	if !psg.Valid(b.Psg) || !timer.Valid(b.Timer) || !regs.Valid(b.Regs) || b.Status < 0 || b.Status > 63 || b.Hold < 0 || b.Hold > 255 {
		t.Error("the machine may not be")
	}
}
