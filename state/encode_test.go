package state

import (
	"bytes"
	"encoding/binary"
	"fmt"
	"math"
	"math/rand/v2"
	"slices"
	"testing"

	"phosphor/api"
	"phosphor/bus"
	"phosphor/card"
	"phosphor/console"
	"phosphor/mpr"
	"phosphor/psg"
	"phosphor/timer"
	"phosphor/timing"
	"phosphor/vram"
)

// TestSize: P27.2, a state has so many bytes, as the chapter's order has.
func TestSize(t *testing.T) {
	x := rich(t, 1)
	if Size != wholeSize || len(order(x)) != 1090 || len(places(partsOf(x))) != 1090 || firstNumber+4*1090 != firstWord || firstWord+2*32768 != firstRam || firstRam+8192 != theSum || theSum+4 != wholeSize {
		t.Errorf("Size is %d, of %d numbers", Size, len(places(partsOf(x))))
	}
	if b := encoded(t, x); len(b) != Size {
		t.Errorf("%d bytes", len(b))
	}
}

// TestEncodeNone: P27.2, ErrNil of nil, and of consoles that no call made, nor their machines, whatever fields are set; nothing is changed.
func TestEncodeNone(t *testing.T) {
	made := rich(t, 1)
	bare := rich(t, 1)
	bare.Bus = nil
	laid := timing.Geometry{Width: 264, Top: 20, Bottom: 250, Blank: 250, Lines: 262}
	for _, r := range []struct {
		name string
		x    *console.Console
	}{
		{"nil", nil},
		{"plain", &console.Console{}},
		{"a Tick", &console.Console{Tick: 5}},
		{"no machine", bare},
		{"a plain machine", &console.Console{Bus: &bus.Bus{}}},
		{"a plain machine, and a Tick", &console.Console{Bus: &bus.Bus{}, Tick: 5}},
		{"a plain machine, and numbers that may not be", &console.Console{Bus: &bus.Bus{Lag: 1, Latch: -1}, Back: -1, Wait: -1}},
		{"a plain machine, and a Core", &console.Console{Bus: &bus.Bus{}, Core: made.Core}},
		{"a plain machine, and a Geometry", &console.Console{Bus: &bus.Bus{}, Geometry: laid}},
		{"a machine with a card", &console.Console{Bus: &bus.Bus{Card: made.Bus.Card}}},
		{"a machine with a card that no call made", &console.Console{Bus: &bus.Bus{Card: &card.Card{}}}},
		{"a machine with a video memory", &console.Console{Bus: &bus.Bus{Video: bus.Video{Vram: vram.New()}}}},
		{"a machine with both", &console.Console{Bus: &bus.Bus{Card: made.Bus.Card, Video: bus.Video{Vram: vram.New()}}, Geometry: laid}},
		{"a machine that holds a byte", &console.Console{Bus: &bus.Bus{Hold: 255, Ram: made.Bus.Ram}}},
	} {
		var before *image
		if r.x != nil {
			before = imageOf(r.x)
		}
		if b, e := Encode(r.x); e != api.ErrNil || len(b) != 0 {
			t.Errorf("%s: %v, and %d bytes", r.name, e, len(b))
		}
		if r.x != nil && *before != *imageOf(r.x) {
			t.Errorf("%s: it is changed", r.name)
		}
	}
}

// expectInvalid asks for ErrArg, and that nothing is changed.
func expectInvalid(t *testing.T, x *console.Console, what string) {
	t.Helper()
	before := imageOf(x)
	if b, e := Encode(x); e != api.ErrArg || len(b) != 0 {
		t.Errorf("%s: %v, and %d bytes", what, e, len(b))
	}
	if *before != *imageOf(x) {
		t.Errorf("%s: it is changed", what)
	}
}

// TestEncodeInvalid: P27.2, ErrArg by each number beyond its bounds; at their ends it is encoded.
func TestEncodeInvalid(t *testing.T) {
	t.Parallel()
	x := rich(t, 1)
	for k, r := range order(x) {
		if r.truth != nil || r.name == "pages" || isPort(k) {
			continue
		}
		kept := *r.n
		beyond := []int{r.least - 1, r.most + 1, math.MinInt, math.MaxInt, -1 << 32, kept + 1<<32}
		if r.alike {
			beyond = beyond[:2]
		}
		for _, n := range beyond {
			*r.n = n
			expectInvalid(t, x, fmt.Sprint(r.name, " of ", n))
		}
		for _, n := range []int{r.least, r.most} {
			*r.n = n
			if _, e := Encode(x); e != api.OK {
				t.Errorf("%s of %d: %v", r.name, n, e)
			}
		}
		*r.n = kept
	}
}

// TestEncodeInvalidParts: P27.2, ErrArg by what is not a number of its own.
func TestEncodeInvalidParts(t *testing.T) {
	rows := []struct {
		name  string
		spoil func(x *console.Console)
	}{
		{"no card", func(x *console.Console) { x.Bus.Card = nil }},
		{"a card that no call made", func(x *console.Console) { x.Bus.Card = &card.Card{} }},
		{"no video memory", func(x *console.Console) { x.Bus.Vram = nil }},
		{"a video memory that no call made", func(x *console.Console) { x.Bus.Vram = &vram.Vram{} }},
		{"neither card nor video memory", func(x *console.Console) { x.Bus.Card, x.Bus.Vram = nil, nil }},
		{"a plain sound", func(x *console.Console) { x.Bus.Psg = psg.Psg{} }},
		{"no card, and a plain mapping", func(x *console.Console) { x.Bus.Card, x.Bus.File = nil, mpr.File{} }},
		{"a machine alone", func(x *console.Console) { *x = console.Console{Bus: x.Bus} }},
		{"Lag 1", func(x *console.Console) { x.Bus.Lag = 1 }},
		{"Lag -1", func(x *console.Console) { x.Bus.Lag = -1 }},
		{"no geometry", func(x *console.Console) { x.Geometry = timing.Geometry{}; x.Tick = 0 }},
		{"Top below Bottom", func(x *console.Console) { x.Geometry.Top = 251 }},
		{"Bottom above Blank", func(x *console.Console) { x.Geometry.Bottom = 251 }},
		{"Blank below Bottom", func(x *console.Console) { x.Geometry.Blank = 249 }},
		{"Bottom above Lines", func(x *console.Console) { x.Geometry.Bottom, x.Geometry.Blank = 263, 263 }},
		{"Blank at Lines", func(x *console.Console) { x.Geometry.Bottom, x.Geometry.Blank = 262, 262 }},
		{"Tick of a line more", func(x *console.Console) { x.Tick = 262 * 1365 }},
		{"a timer that stands, with Pre", func(x *console.Console) { x.Bus.Timer = timer.Timer{Pre: 1} }},
		{"a bit between", func(x *console.Console) { x.Bus.Regs.R[10] = 0x20 }},
		{"another bit between", func(x *console.Console) { x.Bus.Regs.R[12] = 0xe0 }},
		{"Rand 0", func(x *console.Console) { x.Bus.Psg.C[5].Rand = 0 }},
	}
	for _, r := range rows {
		x := rich(t, 1)
		r.spoil(x)
		if console.Valid(x) {
			t.Fatalf("%s: it is Valid", r.name)
		}
		expectInvalid(t, x, r.name)
	}
}

// TestEncodeBytes: P27.2, each byte, of consoles of cards of each kind, new and in the midst of frames and lines; nothing is changed.
func TestEncodeBytes(t *testing.T) {
	r := rand.New(rand.NewPCG(3, 27))
	inLine, inFrame := 0, 0
	hold := func(x *console.Console, what string) {
		t.Helper()
		before := imageOf(x)
		b := encoded(t, x)
		if want := bytesOf(x); !bytes.Equal(b, want) {
			t.Fatalf("%s: %d bytes are others than the %d that must be; the first at %d", what, len(b), len(want), firstOther(b, want))
		}
		if *before != *imageOf(x) {
			t.Fatalf("%s: it is changed", what)
		}
		if x.Tick != 0 {
			inFrame++
		}
		if x.Tick%1365 != 0 {
			inLine++
		}
	}
	for _, pages := range pageCounts {
		hold(rich(t, pages), fmt.Sprint("rich, ", pages))
	}
	for _, one := range cards(t) {
		hold(console.New(one.card), one.what+", new")
		x := tour(one.card, r)
		hold(x, one.what)
		x.RunFrame()
		hold(x, one.what+", behind a frame")
	}
	if inLine < 10 || inFrame < 10 {
		t.Errorf("%d were in the midst of lines, %d of frames", inLine, inFrame)
	}
}

func firstOther(a, b []byte) int {
	for k := range min(len(a), len(b)) {
		if a[k] != b[k] {
			return k
		}
	}
	return min(len(a), len(b))
}

// TestEncodeNumbers: P27.2, each number stands in four bytes, the lowest first, at its place, and nothing else hangs on it but the sum.
func TestEncodeNumbers(t *testing.T) {
	x := rich(t, 1)
	x.Bus.Timer.Pre = 0 // so that the timer may be off
	plain := encoded(t, x)
	for k, r := range order(x) {
		if r.fixed || isPort(k) || r.least == r.most {
			continue
		}
		at := firstNumber + 4*k
		other, back := r.most, r.value()
		if back == r.most {
			other = r.least
		}
		r.put(other)
		b := encoded(t, x)
		if n := binary.LittleEndian.Uint32(b[at:]); int(n) != other {
			t.Errorf("%s of %d: at %d stands %d", r.name, other, at, n)
		}
		if !bytes.Equal(b[:at], plain[:at]) || !bytes.Equal(b[at+4:theSum], plain[at+4:theSum]) {
			t.Errorf("%s of %d: other bytes are changed too", r.name, other)
		}
		r.put(back)
	}
}

// TestEncodePlaces: P27.2, some places, written out.
func TestEncodePlaces(t *testing.T) {
	x := rich(t, 320)
	b := encoded(t, x)
	for _, r := range []struct {
		name  string
		at    int
		bytes []byte
	}{
		{"mark", 0, []byte{0x50, 0x48, 0x4f, 0x53, 1}},
		{"pages", 5, []byte{64, 1, 0, 0}},
		{"A", 9, []byte{0x11, 0, 0, 0}},
		{"P", 25, []byte{0x8c, 0, 0, 0}},
		{"PC", 29, []byte{0x23, 0xe1, 0, 0}},
		{"Fast and Last", 33, []byte{1, 0, 0, 0, 0x5a, 0, 0, 0}},
		{"Tick, Wait, Back", 41, []byte{0x8a, 0x22, 3, 0, 0xde, 0xbc, 0x0a, 0, 0x65, 0x87, 0, 0}},
		{"the Geometry", 53, []byte{8, 1, 0, 0, 20, 0, 0, 0, 250, 0, 0, 0, 250, 0, 0, 0, 6, 1, 0, 0}},
		{"Latch, a mapping register", 73, []byte{2, 0, 0, 0, 0xff, 0, 0, 0}},
		{"Hold, Sel, Clr, Second, Index", 109, []byte{0xa5, 0, 0, 0, 1, 0, 0, 0, 0, 0, 0, 0, 1, 0, 0, 0, 4, 0, 0, 0}},
		{"pads", 129, []byte{0x42, 8, 0, 0, 1, 0, 0, 0, 0xff, 0xff, 0, 0, 0, 0, 0, 0}},
		{"the timer", 169, []byte{99, 0, 0, 0, 44, 0, 0, 0, 1, 0, 0, 0, 0x54, 0x0b, 0, 0}},
		{"Mask, Lines", 185, []byte{5, 0, 0, 0, 6, 0, 0, 0}},
		{"Sel, register 0", 193, []byte{18, 0, 0, 0, 0x34, 0x12, 0, 0}},
		{"register 19, Status, Wait, Moved", 273, []byte{0, 0x1f, 0, 0, 37, 0, 0, 0, 1, 0, 0, 0, 0, 0, 0, 0}},
		{"the Table", 289, []byte{0xe8, 0xfd, 0, 0, 0xeb, 0, 0, 0}},
		{"Control, Addr, colours", 1313, []byte{0x85, 0, 0, 0, 0x2c, 1, 0, 0, 11, 0, 0, 0, 48, 0, 0, 0}},
		{"sound", 3369, []byte{3, 0, 0, 0, 0xfa, 0, 0, 0, 7, 0, 0, 0, 0x81, 0, 0, 0}},
		{"channel 0", 3385, []byte{100, 0, 0, 0, 0x9f, 0, 0, 0, 0xe7, 0, 0, 0, 0x93, 0, 0, 0, 5, 0, 0, 0, 0x56, 0x34, 0x12, 0, 0xcd, 0xab, 2, 0, 31, 0, 0, 0, 9, 0, 0, 0, 11, 0, 0, 0}},
		{"channel 1", 3545, []byte{0x4c, 4, 0, 0, 0x9e, 0, 0, 0}},
		{"ports", 4345, []byte{0x34, 0x12, 0, 0, 0x65, 0x87, 0, 0, 128, 0, 0, 0, 0xa6, 0, 0, 0, 0xdc, 0xfe, 0, 0}},
		{"words", 4365, []byte{0, 0, 0x37, 0x9e, 0x6e, 0x3c}},
		{"Ram", 69901, []byte{3, 14, 25}},
	} {
		if got := b[r.at : r.at+len(r.bytes)]; !bytes.Equal(got, r.bytes) {
			t.Errorf("%s, at %d: % x, want % x", r.name, r.at, got, r.bytes)
		}
	}
	for at := range api.Words {
		if n := int(b[firstWord+2*at]) + 256*int(b[firstWord+2*at+1]); n != x.Bus.Vram.Word(at) {
			t.Fatalf("word %d is %x", at, n)
		}
	}
	if !bytes.Equal(b[firstRam:theSum], x.Bus.Ram[:]) {
		t.Error("Ram is another")
	}
	if n := int(binary.LittleEndian.Uint32(b[theSum:])); n != modelSum(b[:theSum]) || n < 1<<24 {
		t.Errorf("the sum is %x, want %x", n, modelSum(b[:theSum]))
	}
}

// TestEncodeGeometry: P27.2, the numbers of a Geometry that hang together, at their bounds.
func TestEncodeGeometry(t *testing.T) {
	for _, g := range []timing.Geometry{{Width: 8, Top: 3, Bottom: 3, Blank: 3, Lines: 262}, {Width: 512, Top: 263, Bottom: 263, Blank: 262, Lines: 263}, {Width: 511, Top: 3, Bottom: 262, Blank: 261, Lines: 262}, {Width: 9, Top: 100, Bottom: 262, Blank: 262, Lines: 263}} {
		x := rich(t, 1)
		x.Geometry, x.Tick = g, g.Lines*1365-1
		b := encoded(t, x)
		for k, want := range []int{g.Width, g.Top, g.Bottom, g.Blank, g.Lines} {
			if n := int(binary.LittleEndian.Uint32(b[53+4*k:])); n != want {
				t.Errorf("%v: number %d is %d", g, k, n)
			}
		}
		expect(t, decoded(t, x.Bus.Card, b), x, fmt.Sprint(g))
	}
}

// TestEncodeHandedOut: P27.2, what is handed out is new memory each time, its spare room too, and nothing of the console's.
func TestEncodeHandedOut(t *testing.T) {
	x := rich(t, 1)
	before := imageOf(x)
	first, second := encoded(t, x), encoded(t, x)
	kept := slices.Clone(second)
	whole := first[:cap(first)]
	for k := range whole {
		whole[k] ^= 0xff
	}
	if !bytes.Equal(second, kept) || *before != *imageOf(x) {
		t.Error("what was handed out is in use")
	}
	if !bytes.Equal(encoded(t, x), kept) {
		t.Error("it is encoded otherwise")
	}
	for at := range x.Bus.Ram {
		x.Bus.Ram[at]++
	}
	if !bytes.Equal(second, kept) {
		t.Error("memory is shared with the console")
	}
}
