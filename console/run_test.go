package console

import (
	"fmt"
	"testing"

	"phosphor/irq"
	"phosphor/psg"
	"phosphor/timer"
	"phosphor/timing"
)

// TestRunBounds: P26.2, nothing is told, and nothing changed, unless ticks is from 1 to 2^22.
func TestRunBounds(t *testing.T) {
	for _, x := range []*Console{rich(t), busy().console(t), midst(t, busy())} {
		for _, ticks := range append([]int{0, -1, -2, -455, -1 << 22, 1<<22 + 1, 1<<22 + 2, 1 << 23, 1 << 31, 1 << 32, 1<<32 + 1}, beyond...) {
			want := twin(x)
			expectNothing(t, x.Run(ticks), fmt.Sprint("Run of ", ticks))
			expect(t, x, want, fmt.Sprint("Run of ", ticks))
		}
	}
	for _, ticks := range []int{1, 2, 1<<22 - 1, 1 << 22} {
		x := rich(t)
		m := modelOf(x)
		from := x.Tick / 455
		f := x.Run(ticks)
		expectFrame(t, f, m.run(ticks), fmt.Sprint("Run of ", ticks))
		expect(t, x, m.Console, fmt.Sprint("Run of ", ticks))
		if x.Wait != asleep-ticks || len(f.Samples) != (50*1365+700+ticks)/455-from {
			t.Errorf("Run of %d: Wait %d, %d samples", ticks, x.Wait, len(f.Samples))
		}
	}
}

// TestRunInvalid: P26.2, nothing of a console that is not Valid.
func TestRunInvalid(t *testing.T) {
	for k, x := range unright(t) {
		for _, ticks := range []int{1, 455, 100000, 1 << 22} {
			want := twin(x)
			expectNothing(t, x.Run(ticks), fmt.Sprint("console ", k))
			expect(t, x, want, fmt.Sprint("console ", k))
		}
	}
}

// TestLaid: P26.2 (a), the Geometry is told anew at Tick 0 alone.
func TestLaid(t *testing.T) {
	rows := []struct {
		control, hdr, vpr, vdw, vcr int
		want                        timing.Geometry
	}{
		{0, 0, 0, 0, 0, timing.Geometry{Width: 8, Top: 3, Bottom: 4, Blank: 4, Lines: 262}},
		{0, 31, 0xf02, 239, 4, timing.Geometry{Width: 256, Top: 20, Bottom: 260, Blank: 260, Lines: 262}},
		{4, 31, 0xf02, 239, 0, timing.Geometry{Width: 256, Top: 20, Bottom: 260, Blank: 260, Lines: 263}},
		{0, 127, 0, 100, 0, timing.Geometry{Width: 341, Top: 3, Bottom: 104, Blank: 104, Lines: 262}},
		{1, 127, 0, 100, 0, timing.Geometry{Width: 455, Top: 3, Bottom: 104, Blank: 104, Lines: 262}},
		{2, 127, 0, 100, 0, timing.Geometry{Width: 512, Top: 3, Bottom: 104, Blank: 104, Lines: 262}},
		{3, 63, 0x102, 7, 9, timing.Geometry{Width: 512, Top: 6, Bottom: 14, Blank: 14, Lines: 262}},
		{0, 0, 0, 511, 0, timing.Geometry{Width: 8, Top: 3, Bottom: 262, Blank: 261, Lines: 262}},
		{4, 0, 0, 511, 0, timing.Geometry{Width: 8, Top: 3, Bottom: 263, Blank: 262, Lines: 263}},
		{4, 0, 0xff1f, 0, 0, timing.Geometry{Width: 8, Top: 263, Bottom: 263, Blank: 262, Lines: 263}},
	}
	for _, r := range rows {
		for _, tick := range []int{0, 1, 455, 1364, 1365, 2730, 100 * 1365, 261 * 1365, 262*1365 - 1} {
			x := rich(t)
			x.Tick = tick
			b := x.Bus
			b.Vce.Control = r.control
			b.Regs.R[11], b.Regs.R[12], b.Regs.R[13], b.Regs.R[14] = r.hdr, r.vpr, r.vdw, r.vcr
			before := x.Geometry
			x.Run(1)
			if want := map[bool]timing.Geometry{true: r.want, false: before}[tick == 0]; x.Geometry != want {
				t.Errorf("%v at %d: %v, want %v", r, tick, x.Geometry, want)
			}
			if tick == 262*1365-1 {
				if x.Tick != 0 {
					t.Errorf("Tick is %d behind the frame", x.Tick)
				}
				if x.Run(1); x.Geometry != r.want {
					t.Errorf("%v in the next frame: %v", r, x.Geometry)
				}
			}
		}
	}
}

// TestLaidMidst: P26.2 (a), registers that change in the midst of a frame change nothing of it; the next one is laid by them.
func TestLaidMidst(t *testing.T) {
	x := rich(t)
	x.Tick = 0
	f := x.Run(100 * 1365)
	x.Bus.Vce.Control, x.Bus.Regs.R[11], x.Bus.Regs.R[12], x.Bus.Regs.R[13] = 6, 63, 0x300, 99
	f = behind(f, x.RunFrame())
	if len(f.Lines) != 240 || len(f.Lines[239]) != 256 || len(f.Samples) != 786 || x.Tick != 0 {
		t.Errorf("%d lines, %d samples", len(f.Lines), len(f.Samples))
	}
	if f = x.RunFrame(); len(f.Lines) != 100 || len(f.Lines[0]) != 512 || len(f.Samples) != 789 {
		t.Errorf("the next frame: %d lines, %d samples", len(f.Lines), len(f.Samples))
	}
}

// waking is a console whose processor is ready at a tick within a line, with these bytes ahead of it, in memory; it takes interrupts.
func waking(t *testing.T, fast bool, code ...byte) *Console {
	t.Helper()
	x := rich(t)
	x.Tick = 10*1365 + 10
	x.Wait = 0
	copy(x.Bus.Ram[0x400:], code)
	x.Core.R.PC, x.Core.Fast = 0x2400, fast
	x.Bus.Timer = timer.Timer{}
	x.Bus.File[0] = 0xff
	return x
}

// TestSteps: P26.2 (c), a step where Wait is 0, and nowhere else; Wait is the ticks of its cycles, of the processor behind it.
func TestSteps(t *testing.T) {
	rows := []struct {
		name string
		fast bool
		code []byte
		wait int
		on   int
	}{
		{"NOP, slow", false, []byte{0xea}, 24, 1},
		{"NOP, fast", true, []byte{0xea}, 6, 1},
		{"CSH, slow", false, []byte{0xd4}, 9, 1},
		{"CSL, fast", true, []byte{0x54}, 36, 1},
		{"CSH, fast", true, []byte{0xd4}, 9, 1},
		{"CSL, slow", false, []byte{0x54}, 36, 1},
		{"LDA of a slow place", true, fetch(0x404), 18, 3},
		{"LDA of a slow place, slow", false, fetch(0x404), 72, 3},
		{"TII of 3", true, transfer(0x73, 0x2600, 0x2700, 3), 105, 7},
		{"TIA to a slow place", false, transfer(0xe3, 0x2600, 0x404, 100), (17 + 700) * 12, 7},
		{"TIA of 65536 from slow places to others", false, transfer(0xe3, 0x400, 0x404, 0), 12 * (17 + 7*65536 + 2048), 7},
	}
	for _, r := range rows {
		x := waking(t, r.fast, r.code...)
		x.Run(1)
		if x.Wait != r.wait-1 || x.Core.R.PC != 0x2400+r.on || x.Tick != 10*1365+11 {
			t.Errorf("%s: Wait %d, want %d, PC %x, Tick %d", r.name, x.Wait, r.wait-1, x.Core.R.PC, x.Tick)
		}
		core := x.Core
		if x.Wait > 5000 {
			continue
		}
		x.Run(r.wait - 1)
		if x.Wait != 0 || x.Core != core {
			t.Errorf("%s: Wait %d, %v", r.name, x.Wait, x.Core)
		}
		if x.Run(1); x.Wait == 0 || x.Core == core {
			t.Errorf("%s: there is no step behind it", r.name)
		}
	}
}

// TestWaits: P26.2 (c) and (d), the processor waits as long as Wait says, whatever comes by.
func TestWaits(t *testing.T) {
	for _, wait := range []int{1, 2, 3, 454, 455, 1365, 70000} {
		x := waking(t, true, 0xe8, 0xe8, 0xe8)
		x.Wait = wait
		if x.Run(wait); x.Wait != 0 || x.Core.R.PC != 0x2400 {
			t.Errorf("Wait %d: PC %x, Wait %d behind it", wait, x.Core.R.PC, x.Wait)
		}
		if x.Run(1); x.Wait != 5 || x.Core.R.PC != 0x2401 || x.Core.R.X != 0x23 {
			t.Errorf("Wait %d: PC %x, Wait %d behind a tick more", wait, x.Core.R.PC, x.Wait)
		}
		if x.Run(7); x.Wait != 4 || x.Core.R.PC != 0x2402 || x.Core.R.X != 0x24 {
			t.Errorf("Wait %d: PC %x, X %x, Wait %d", wait, x.Core.R.PC, x.Core.R.X, x.Wait)
		}
	}
}

// TestLongTransfer: P26.2 (c) and W3, a transfer that is longer than a line, and one that is longer than a frame, are one step; lines are drawn, samples heard and interrupts told by then, and taken behind it.
func TestLongTransfer(t *testing.T) {
	for _, r := range []struct{ n, wait int }{{200, 3 * (17 + 6*200)}, {0, 3 * (17 + 6*65536)}} {
		x := waking(t, true, transfer(0xd3, 0x2600, 0x2700, r.n)...)
		x.Bus.File[0] = 0xf8 // no port is read
		x.Bus.Regs.R[5], x.Bus.Regs.R[6] = 0xcc, 64
		x.Tick = 20*1365 - 40
		m := modelOf(x)
		f := x.Run(r.wait)
		expectFrame(t, f, m.run(r.wait), "a transfer")
		expect(t, x, m.Console, "a transfer")
		if x.Core.R.PC != 0x2407 || x.Wait != 0 || x.Bus.Irq.Lines != irq.Irq1 || len(f.Lines) < 2 {
			t.Errorf("PC %x, Wait %d, %v, %d lines", x.Core.R.PC, x.Wait, x.Bus.Irq, len(f.Lines))
		}
		if x.Run(1); x.Core.R.PC != irq1At || x.Wait != 23 {
			t.Errorf("behind it: PC %x, Wait %d", x.Core.R.PC, x.Wait)
		}
	}
}

// TestTimerTick: P26.2 (d), the timer comes round at the very tick, and raises its line there; by each way of running.
func TestTimerTick(t *testing.T) {
	for _, left := range []int{1, 2, 5, 454, 455, 456, 1365, 3072} {
		for _, reload := range []int{0, 1, 127} {
			x := rich(t)
			x.Bus.Timer = timer.Timer{Reload: reload, On: true, Pre: 3072 - left}
			if left > 1 {
				if x.Run(left - 1); x.Bus.Irq.Lines != 0 || x.Bus.Timer.Pre != 3071 || x.Bus.Lag != 0 {
					t.Errorf("%d: %v, %v, Lag %d", left, x.Bus.Irq, x.Bus.Timer, x.Bus.Lag)
				}
			}
			x.Run(1)
			if want := (timer.Timer{Reload: reload, Count: reload, On: true}); x.Bus.Irq.Lines != irq.Clock || x.Bus.Timer != want || x.Bus.Lag != 0 {
				t.Errorf("%d: %v, %v, Lag %d", left, x.Bus.Irq, x.Bus.Timer, x.Bus.Lag)
			}
		}
	}
	x := rich(t)
	x.Bus.Timer = timer.Timer{Reload: 2, On: false, Count: 1}
	if x.Run(1 << 20); x.Bus.Irq.Lines != 0 || x.Bus.Timer != (timer.Timer{Reload: 2, Count: 1}) {
		t.Errorf("a timer that stands: %v, %v", x.Bus.Irq, x.Bus.Timer)
	}
}

// TestTimerTaken: P26.2 (c) and (d), the interrupt of the timer is taken by the first step that begins behind the tick at which it comes round: NOPs begin each sixth tick.
func TestTimerTaken(t *testing.T) {
	nops := make([]byte, 64)
	for k := range nops {
		nops[k] = 0xea
	}
	for left := 1; left <= 40; left++ {
		x := waking(t, true, nops...)
		x.Bus.Timer = timer.Timer{Reload: 100, On: true, Pre: 3072 - left}
		first := (left + 5) / 6 * 6 // the step that begins at this tick is the first one that sees it
		if x.Run(first); x.Core.R.PC != 0x2400+first/6 || x.Wait != 0 {
			t.Errorf("%d: PC %x, Wait %d", left, x.Core.R.PC, x.Wait)
		}
		if x.Run(1); x.Core.R.PC != tickAt || x.Wait != 23 || x.Bus.Ram[0x1fc] != byte(first/6) {
			t.Errorf("%d: PC %x, Wait %d, pushed %x", left, x.Core.R.PC, x.Wait, x.Bus.Ram[0x1fb:0x1fe])
		}
	}
}

// TestTimerRead: P26.2 (d), a step reads the Count as it is at its first tick; where the timer comes round within the step ahead, its line is seen too.
func TestTimerRead(t *testing.T) {
	for left := 1; left <= 30; left++ {
		x := waking(t, true, join([]byte{0xea, 0xea}, fetch(0xc00), fetch(0x1403))...)
		x.Core.R.P = 4
		x.Bus.Timer = timer.Timer{Reload: 100, Count: 0, On: true, Pre: 3072 - left}
		x.Run(13) // both NOPs, and the first LDA
		count := map[bool]int{true: 100, false: 0}[left <= 12]
		if got := x.Core.R.A % 128; got != count {
			t.Errorf("%d: the Count is read as %d", left, got)
		}
		x.Run(15)
		raised := map[bool]int{true: 4, false: 0}[left <= 27]
		if got := x.Core.R.A % 8; got != raised {
			t.Errorf("%d: the lines are read as %d", left, got)
		}
	}
}

// TestTimerOn: P26.2 (d), a timer that a step turns on counts from that tick on.
func TestTimerOn(t *testing.T) {
	x := waking(t, true, join(store(0xc00, 0), store(0xc01, 1), forever())...)
	x.Core.R.P = 4
	x.Run(6 + 15 + 6) // the step that turns it on begins behind these
	if x.Bus.Timer.On {
		t.Error("it is on already")
	}
	for k := range 3071 {
		if x.Run(1); x.Bus.Timer != (timer.Timer{On: true, Pre: k + 1}) || x.Bus.Irq.Lines != 0 {
			t.Fatalf("tick %d: %v, %v", k, x.Bus.Timer, x.Bus.Irq)
		}
	}
	if x.Run(1); x.Bus.Timer != (timer.Timer{On: true}) || x.Bus.Irq.Lines != irq.Clock {
		t.Errorf("%v, %v", x.Bus.Timer, x.Bus.Irq)
	}
}

// TestSampleTicks: P26.2 (d), one sample at each multiple of 455, and nowhere else; the frame's end is one, and Tick is 0 there.
func TestSampleTicks(t *testing.T) {
	for _, lines := range []int{262, 263} {
		x := rich(t)
		x.Tick = 0
		x.Bus.Vce.Control = (lines - 262) * 4
		p := x.Bus.Psg
		for tick := range lines * 1365 {
			f := x.Run(1)
			if want := (tick + 1) % (lines * 1365); x.Tick != want {
				t.Fatalf("Tick is %d, want %d", x.Tick, want)
			}
			if (tick+1)%455 != 0 {
				expectNothing(t, Frame{Samples: f.Samples}, fmt.Sprint("tick ", tick))
				continue
			}
			var want [][2]int
			want, p = psg.Samples(p, 1)
			if len(f.Samples) != 1 || f.Samples[0] != want[0] || x.Bus.Psg != p {
				t.Fatalf("tick %d: %v, want %v", tick, f.Samples, want)
			}
		}
	}
}

// TestSampleWrite: P26.2, a write to the sound is heard from the next sample on, also one by the step that begins at the tick behind a sample.
func TestSampleWrite(t *testing.T) {
	for _, tick := range []int{454, 455, 456, 909, 910} {
		x := waking(t, true, store(0x801, 0)...) // LDA at this tick, STA 6 ticks on
		x.Tick = tick
		p := x.Bus.Psg
		f := x.Run(910)
		for k, s := range f.Samples {
			var want [][2]int
			if at := (tick/455 + 1 + k) * 455; at > tick+6 {
				p.Main = 0
			}
			want, p = psg.Samples(p, 1)
			if s != want[0] {
				t.Errorf("from %d: sample %d is %v, want %v", tick, k, s, want[0])
			}
		}
	}
}
