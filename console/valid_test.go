package console

import (
	"fmt"
	"testing"

	"phosphor/api"
	"phosphor/bus"
	"phosphor/card"
	"phosphor/timer"
	"phosphor/timing"
	"phosphor/vram"
)

// field is a number of a console, and its bounds.
type field struct {
	name        string
	n           *int
	least, most int
}

// fields are all numbers of a console that have bounds of their own. Those of the Geometry hang together, and stand elsewhere.
func fields(x *Console) []field {
	r, b := &x.Core.R, x.Bus
	all := []field{
		{"A", &r.A, 0, 255}, {"X", &r.X, 0, 255}, {"Y", &r.Y, 0, 255}, {"S", &r.S, 0, 255}, {"P", &r.P, 0, 255}, {"PC", &r.PC, 0, 65535},
		{"Last", &x.Core.Last, 0, 255},
		{"Tick", &x.Tick, 0, 262*1365 - 1}, {"Wait", &x.Wait, 0, 1<<24 - 1}, {"Back", &x.Back, 0, 65535},
		{"Latch", &b.Latch, 0, 3}, {"Status", &b.Status, 0, 63}, {"Hold", &b.Hold, 0, 255}, {"Lag", &b.Lag, 0, 0},
		{"Mask", &b.Irq.Mask, 0, 7}, {"Lines", &b.Irq.Lines, 0, 7}, {"Index", &b.Port.Index, 0, 5},
		{"Reload", &b.Timer.Reload, 0, 127}, {"Count", &b.Timer.Count, 0, 127}, {"Pre", &b.Timer.Pre, 0, 3071},
		{"Control", &b.Vce.Control, 0, 255}, {"Addr", &b.Vce.Addr, 0, 511},
		{"Regs.Sel", &b.Regs.Sel, 0, 31},
		{"Psg.Sel", &b.Psg.Sel, 0, 7}, {"Main", &b.Psg.Main, 0, 255}, {"LfoFreq", &b.Psg.LfoFreq, 0, 255}, {"LfoControl", &b.Psg.LfoControl, 0, 255},
	}
	add := func(name string, k int, n *int, least, most int) {
		all = append(all, field{fmt.Sprint(name, " ", k), n, least, most})
	}
	for k := range b.File {
		add("File", k, &b.File[k], 0, 255)
	}
	for k := range b.Pads {
		add("Keys", k, &b.Pads[k].Keys, 0, 65535)
	}
	for k := range b.Table {
		add("Table", k, &b.Table[k], 0, 65535)
	}
	for k := range b.Vce.Table {
		add("colour", k, &b.Vce.Table[k], 0, 511)
	}
	masks := []int{0xffff, 0xffff, 0xffff, 0, 0, 0x1fff, 0x3ff, 0x3ff, 0x1ff, 0xff, 0x7f1f, 0x7f7f, 0xff1f, 0x1ff, 0xff, 0x1f, 0xffff, 0xffff, 0xffff, 0xffff}
	for k, mask := range masks {
		add("register", k, &b.Regs.R[k], 0, mask)
	}
	for k := range b.Psg.C {
		c := &b.Psg.C[k]
		add("Freq", k, &c.Freq, 0, 4095)
		add("channel's Control", k, &c.Control, 0, 255)
		add("Balance", k, &c.Balance, 0, 255)
		add("Noise", k, &c.Noise, 0, 255)
		add("channel's Index", k, &c.Index, 0, 31)
		add("Acc", k, &c.Acc, 0, 1<<24-1)
		add("Rand", k, &c.Rand, 1, 1<<18-1)
		add("Dda", k, &c.Dda, 0, 31)
		for i := range c.Wave {
			add("Wave", 100*k+i, &c.Wave[i], 0, 31)
		}
	}
	return all
}

// TestValidFields: P26.4, each number at both ends of its bounds, and beyond them, one at a time.
func TestValidFields(t *testing.T) {
	x := rich(t)
	for _, f := range fields(x) {
		kept := *f.n
		for _, n := range []int{f.least, f.most} {
			if *f.n = n; !Valid(x) {
				t.Errorf("%s of %d: it is not Valid", f.name, n)
			}
		}
		for _, n := range append([]int{f.least - 1, f.most + 1}, beyond...) {
			if *f.n = n; Valid(x) {
				t.Errorf("%s of %d: it is Valid", f.name, n)
			}
		}
		*f.n = kept
	}
	if !Valid(x) {
		t.Error("it is not Valid")
	}
}

// TestValidBits: P26.4, bits that registers may not have, below their highest one.
func TestValidBits(t *testing.T) {
	x := rich(t)
	for _, r := range []struct{ k, n int }{{10, 0x20}, {10, 0x80}, {11, 0x80}, {12, 0x20}, {12, 0xe0}, {3, 1}, {4, 0x100}} {
		kept := x.Bus.Regs.R[r.k]
		if x.Bus.Regs.R[r.k] = r.n; Valid(x) {
			t.Errorf("register %d of %x: it is Valid", r.k, r.n)
		}
		x.Bus.Regs.R[r.k] = kept
	}
}

// TestValidTimer: P26.4, of a timer that stands Pre is 0.
func TestValidTimer(t *testing.T) {
	x := rich(t)
	x.Bus.Timer = timer.Timer{Reload: 127, Count: 127}
	if !Valid(x) {
		t.Error("a timer that stands: it is not Valid")
	}
	if x.Bus.Timer.Pre = 1; Valid(x) {
		t.Error("a Pre of 1 of a timer that stands: it is Valid")
	}
}

// TestValidBools: P26.4, bools may be either.
func TestValidBools(t *testing.T) {
	x := rich(t)
	b := x.Bus
	for k, flag := range []*bool{&x.Core.Fast, &b.Wait, &b.Moved, &b.Port.Sel, &b.Port.Clr, &b.Port.Second, &b.Pads[0].Six, &b.Pads[4].Six} {
		for range 2 {
			if *flag = !*flag; !Valid(x) {
				t.Errorf("bool %d: it is not Valid", k)
			}
		}
	}
	for at := range b.Ram {
		b.Ram[at] = 255
	}
	if !Valid(x) {
		t.Error("Ram of 255: it is not Valid")
	}
}

// TestValidGeometry: P26.4, the Geometry, each number at both ends of its bounds and one beyond.
func TestValidGeometry(t *testing.T) {
	rows := []struct {
		g    timing.Geometry
		want bool
	}{
		{timing.Geometry{Width: 256, Top: 20, Bottom: 260, Blank: 260, Lines: 262}, true},
		{timing.Geometry{Width: 256, Top: 20, Bottom: 260, Blank: 260, Lines: 263}, true},
		{timing.Geometry{Width: 256, Top: 20, Bottom: 260, Blank: 260, Lines: 261}, false},
		{timing.Geometry{Width: 256, Top: 20, Bottom: 260, Blank: 260, Lines: 264}, false},
		{timing.Geometry{Width: 256, Top: 20, Bottom: 260, Blank: 260, Lines: 0}, false},
		{timing.Geometry{Width: 8, Top: 20, Bottom: 260, Blank: 260, Lines: 262}, true},
		{timing.Geometry{Width: 9, Top: 20, Bottom: 260, Blank: 260, Lines: 262}, true},
		{timing.Geometry{Width: 7, Top: 20, Bottom: 260, Blank: 260, Lines: 262}, false},
		{timing.Geometry{Width: 0, Top: 20, Bottom: 260, Blank: 260, Lines: 262}, false},
		{timing.Geometry{Width: -8, Top: 20, Bottom: 260, Blank: 260, Lines: 262}, false},
		{timing.Geometry{Width: 512, Top: 20, Bottom: 260, Blank: 260, Lines: 262}, true},
		{timing.Geometry{Width: 513, Top: 20, Bottom: 260, Blank: 260, Lines: 262}, false},
		{timing.Geometry{Width: 8, Top: 3, Bottom: 4, Blank: 4, Lines: 262}, true},
		{timing.Geometry{Width: 8, Top: 3, Bottom: 3, Blank: 3, Lines: 262}, true},
		{timing.Geometry{Width: 8, Top: 2, Bottom: 4, Blank: 4, Lines: 262}, false},
		{timing.Geometry{Width: 8, Top: 2, Bottom: 2, Blank: 2, Lines: 262}, false},
		{timing.Geometry{Width: 8, Top: 0, Bottom: 4, Blank: 4, Lines: 262}, false},
		{timing.Geometry{Width: 8, Top: -3, Bottom: 4, Blank: 4, Lines: 262}, false},
		{timing.Geometry{Width: 8, Top: 4, Bottom: 3, Blank: 3, Lines: 262}, false},
		{timing.Geometry{Width: 8, Top: 261, Bottom: 260, Blank: 260, Lines: 262}, false},
		{timing.Geometry{Width: 8, Top: 261, Bottom: 261, Blank: 261, Lines: 262}, true},
		{timing.Geometry{Width: 8, Top: 262, Bottom: 262, Blank: 261, Lines: 262}, true},
		{timing.Geometry{Width: 8, Top: 262, Bottom: 262, Blank: 262, Lines: 262}, false},
		{timing.Geometry{Width: 8, Top: 263, Bottom: 262, Blank: 261, Lines: 262}, false},
		{timing.Geometry{Width: 8, Top: 263, Bottom: 263, Blank: 261, Lines: 262}, false},
		{timing.Geometry{Width: 8, Top: 20, Bottom: 263, Blank: 261, Lines: 262}, false},
		{timing.Geometry{Width: 8, Top: 20, Bottom: 262, Blank: 261, Lines: 262}, true},
		{timing.Geometry{Width: 8, Top: 20, Bottom: 262, Blank: 261, Lines: 263}, false},
		{timing.Geometry{Width: 8, Top: 20, Bottom: 262, Blank: 262, Lines: 263}, true},
		{timing.Geometry{Width: 8, Top: 20, Bottom: 263, Blank: 262, Lines: 263}, true},
		{timing.Geometry{Width: 8, Top: 20, Bottom: 263, Blank: 263, Lines: 263}, false},
		{timing.Geometry{Width: 8, Top: 20, Bottom: 264, Blank: 262, Lines: 263}, false},
		{timing.Geometry{Width: 256, Top: 20, Bottom: 260, Blank: 259, Lines: 262}, false},
		{timing.Geometry{Width: 256, Top: 20, Bottom: 260, Blank: 261, Lines: 262}, false},
		{timing.Geometry{Width: 256, Top: 20, Bottom: 260, Blank: 0, Lines: 262}, false},
	}
	for _, n := range beyond {
		rows = append(rows, []struct {
			g    timing.Geometry
			want bool
		}{
			{timing.Geometry{Width: n, Top: 20, Bottom: 260, Blank: 260, Lines: 262}, false},
			{timing.Geometry{Width: 256, Top: n, Bottom: 260, Blank: 260, Lines: 262}, false},
			{timing.Geometry{Width: 256, Top: 20, Bottom: n, Blank: 261, Lines: 262}, false},
			{timing.Geometry{Width: 256, Top: 20, Bottom: n, Blank: n, Lines: 262}, false},
			{timing.Geometry{Width: 256, Top: 20, Bottom: 260, Blank: n, Lines: 262}, false},
			{timing.Geometry{Width: 256, Top: 20, Bottom: 260, Blank: 260, Lines: n}, false},
			{timing.Geometry{Width: n, Top: n, Bottom: n, Blank: n, Lines: n}, false},
		}...)
	}
	x := rich(t)
	for _, r := range rows {
		if x.Geometry = r.g; Valid(x) != r.want {
			t.Errorf("%v: Valid is %v", r.g, !r.want)
		}
	}
}

// TestValidTick: P26.4, Tick is below the frame's that there is.
func TestValidTick(t *testing.T) {
	x := rich(t)
	for _, r := range []struct {
		lines, tick int
		want        bool
	}{
		{262, 0, true}, {262, 262*1365 - 1, true}, {262, 262 * 1365, false}, {262, 263*1365 - 1, false},
		{263, 0, true}, {263, 262 * 1365, true}, {263, 263*1365 - 1, true}, {263, 263 * 1365, false}, {263, -1, false},
	} {
		x.Geometry.Lines, x.Tick = r.lines, r.tick
		if Valid(x) != r.want {
			t.Errorf("%d lines, Tick %d: Valid is %v", r.lines, r.tick, !r.want)
		}
	}
}

// TestValidParts: P26.4, a Bus, a Card that has pages, and a Vram that a call made.
func TestValidParts(t *testing.T) {
	words := make([]int, api.Words)
	loadedVram, ok := vram.Load(words, [5]int{65535, 65535, 65535, 255, 65535})
	still, _ := vram.Load(words, [5]int{}) // a step of 0
	if !ok {
		t.Fatal("vram.Load tells none")
	}
	for _, r := range []struct {
		name string
		set  func(x *Console)
		want bool
	}{
		{"no Bus", func(x *Console) { x.Bus = nil }, false},
		{"a Bus that no call made", func(x *Console) { x.Bus = &bus.Bus{} }, false},
		{"another Bus", func(x *Console) { x.Bus = bus.New(x.Bus.Card) }, true},
		{"no Card", func(x *Console) { x.Bus.Card = nil }, false},
		{"a Card without pages", func(x *Console) { x.Bus.Card = &card.Card{} }, false},
		{"another Card", func(x *Console) { x.Bus.Card = busy().load(t, 320) }, true},
		{"no Vram", func(x *Console) { x.Bus.Vram = nil }, false},
		{"a Vram that no call made", func(x *Console) { x.Bus.Vram = &vram.Vram{} }, false},
		{"another Vram", func(x *Console) { x.Bus.Vram = vram.New() }, true},
		{"a Vram that was loaded", func(x *Console) { x.Bus.Vram = loadedVram }, true},
		{"a Vram with a step of 0", func(x *Console) { x.Bus.Vram = still }, true},
	} {
		x := rich(t)
		r.set(x)
		if Valid(x) != r.want {
			t.Errorf("%s: Valid is %v", r.name, !r.want)
		}
		if f := x.Run(455); (len(f.Samples) == 1) != r.want {
			t.Errorf("%s: %d samples", r.name, len(f.Samples))
		}
	}
}

// TestValidChangesNothing: P26.4, to ask changes nothing.
func TestValidChangesNothing(t *testing.T) {
	for _, x := range append(unright(t), rich(t), midst(t, busy())) {
		want := twin(x)
		Valid(x)
		expect(t, x, want, "Valid")
	}
}
