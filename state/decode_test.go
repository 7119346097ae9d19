package state

import (
	"bytes"
	"encoding/binary"
	"errors"
	"fmt"
	"slices"
	"testing"

	"phosphor/api"
	"phosphor/card"
	"phosphor/console"
	"phosphor/timing"
)

// TestDecodeNoCard: P27.3, ErrNil of a card that is nil, or that no call made, whatever the bytes are.
func TestDecodeNoCard(t *testing.T) {
	x := rich(t, 1)
	b := encoded(t, x)
	none := with(b, 0, 0) // a state of no pages, too
	for k, bytes := range [][]byte{b, none, nil, {}, b[:100], append(slices.Clone(b), 0), []byte("PHOS\x02"), make([]byte, Size)} {
		expectRefused(t, nil, bytes, api.ErrNil, fmt.Sprint("no card, bytes ", k))
		expectRefused(t, &card.Card{}, bytes, api.ErrNil, fmt.Sprint("a card that no call made, bytes ", k))
	}
}

// TestDecodeSizes: P27.3, ErrEnd of fewer than Size bytes, ErrBig of more; what lies behind the length is not read.
func TestDecodeSizes(t *testing.T) {
	x := rich(t, 1)
	c, b := x.Bus.Card, encoded(t, x)
	for _, n := range []int{0, 1, 4, 5, 6, 9, 4364, 4365, 69901, theSum - 1, theSum, theSum + 3, Size - 1} {
		expectRefused(t, c, b[:n], api.ErrEnd, fmt.Sprint(n, " bytes, with the others behind them"))
		expectRefused(t, c, slices.Clone(b[:n]), api.ErrEnd, fmt.Sprint(n, " bytes"))
		expectRefused(t, c, b[Size-n:], api.ErrEnd, fmt.Sprint("the last ", n, " bytes"))
	}
	expectRefused(t, c, nil, api.ErrEnd, "nil")
	for _, n := range []int{1, 2, 4, 5, Size, 1 << 20} {
		more := append(slices.Clone(b), make([]byte, n)...)
		expectRefused(t, c, more, api.ErrBig, fmt.Sprint(n, " bytes more"))
		expectRefused(t, c, sealed(more), api.ErrBig, fmt.Sprint(n, " bytes more, with a sum"))
		expect(t, decoded(t, c, more[:Size]), x, "with spare room")
	}
	expect(t, decoded(t, c, b), x, "just so many")
}

// TestDecodeMark: P27.3, ErrForm of each of the first five bytes changed, with the sum put right, and without.
func TestDecodeMark(t *testing.T) {
	x := rich(t, 1)
	c, b := x.Bus.Card, encoded(t, x)
	for at := range 5 {
		for _, flip := range []byte{1, 2, 0x20, 0x80, 0xff, b[at]} {
			other := slices.Clone(b)
			other[at] ^= flip
			expectRefused(t, c, other, api.ErrForm, fmt.Sprintf("byte %d is %x", at, other[at]))
			expectRefused(t, c, sealed(other), api.ErrForm, fmt.Sprintf("byte %d is %x, with a sum", at, other[at]))
		}
	}
	for _, mark := range []string{"phos\x01", "PHOS\x00", "PHOS\x02", "PHOS1", "\x01PHOS", "SOHP\x01", "\x00\x00\x00\x00\x00"} {
		other := slices.Clone(b)
		copy(other, mark)
		expectRefused(t, c, sealed(other), api.ErrForm, fmt.Sprintf("%q", mark))
	}
}

// TestDecodeSum: P27.3, ErrSum of each byte of the sum changed, and of others changed without it.
func TestDecodeSum(t *testing.T) {
	x := rich(t, 1)
	c, b := x.Bus.Card, encoded(t, x)
	other := slices.Clone(b)
	for at := theSum; at < Size; at++ {
		for _, flip := range []byte{1, 0x10, 0x80, 0xff} {
			other[at] ^= flip
			expectRefused(t, c, other, api.ErrSum, fmt.Sprintf("byte %d is %x", at, other[at]))
			other[at] = b[at]
		}
	}
	for at := 5; at < theSum; at += 1 + at/50 {
		other[at]++
		expectRefused(t, c, other, api.ErrSum, fmt.Sprint("byte ", at))
		other[at] = b[at]
	}
	for _, at := range []int{firstWord - 1, firstWord, firstRam - 1, firstRam, theSum - 1} {
		other[at]--
		expectRefused(t, c, other, api.ErrSum, fmt.Sprint("byte ", at))
		other[at] = b[at]
	}
	for k := range 4 { // its bytes in another order
		slices.Reverse(other[theSum+k:])
		if !bytes.Equal(other, b) {
			expectRefused(t, c, other, api.ErrSum, fmt.Sprint("the last ", 4-k, " the other way round"))
		}
		copy(other, b)
	}
	expect(t, decoded(t, c, other), x, "as it was")
}

// TestDecodePages: P27.3, ErrForm of another number of pages than the card has.
func TestDecodePages(t *testing.T) {
	for _, pages := range pageCounts {
		x := rich(t, pages)
		b := encoded(t, x)
		for _, n := range []uint32{0, 3, uint32(pages - 1), uint32(pages + 1), uint32(pages + 256), uint32(pages + 65536), uint32(pages + 1<<24), uint32(pages + 1<<31), 1<<32 - 1} {
			expectRefused(t, x.Bus.Card, with(b, 0, n), api.ErrForm, fmt.Sprint(n, " pages, of ", pages))
		}
		for _, others := range pageCounts {
			c := zeros(t, others)
			if others != pages {
				expectRefused(t, c, b, api.ErrForm, fmt.Sprint(pages, " pages, with a card of ", others))
				continue
			}
			want := twin(x)
			want.Bus.Card = c
			expect(t, decoded(t, c, b), want, "another card of so many pages")
		}
	}
}

// TestDecodeBools: P27.3, ErrForm of a bool that is neither 1 nor 0.
func TestDecodeBools(t *testing.T) {
	x := rich(t, 1)
	x.Bus.Timer.Pre = 0 // so that the timer may be off
	c, b := x.Bus.Card, encoded(t, x)
	bools := 0
	for k, r := range order(x) {
		if r.truth == nil {
			continue
		}
		bools++
		for _, n := range []uint32{2, 3, 255, 256, 257, 65536, 65537, 1 << 24, 1<<24 + 1, 1 << 31, 1<<31 + 1, 1<<32 - 1, 1<<32 - 2} {
			expectRefused(t, c, with(b, k, n), api.ErrForm, fmt.Sprint(r.name, " of ", n))
		}
		for n := range uint32(2) {
			want := twin(x)
			*order(want)[k].truth = n == 1
			expect(t, decoded(t, c, with(b, k, n)), want, fmt.Sprint(r.name, " of ", n))
		}
	}
	if bools != 12 {
		t.Errorf("%d bools", bools)
	}
}

// TestDecodeNumbers: P27.3, ErrForm of each number one beyond each of its bounds, and far beyond; at its bounds it is what is told.
func TestDecodeNumbers(t *testing.T) {
	t.Parallel()
	x := rich(t, 1)
	c, b := x.Bus.Card, encoded(t, x)
	for k, r := range order(x) {
		if r.truth != nil {
			continue
		}
		n := uint32(*r.n)
		beyond := []uint32{uint32(r.most + 1), uint32(r.least - 1), n + 1<<24, n + 1<<31, 1<<31 - 1, 1 << 31, 1<<32 - 1, -n - 1}
		within := []int{r.most, r.least}
		if r.alike {
			beyond, within = beyond[:2], within[:1]
		}
		for _, n := range beyond {
			expectRefused(t, c, with(b, k, n), api.ErrForm, fmt.Sprint(r.name, " of ", n))
		}
		for _, n := range within {
			told := order(decoded(t, c, with(b, k, uint32(n))))
			if got := told[k].value(); got != n {
				t.Errorf("%s of %d: it is %d", r.name, n, got)
			}
		}
	}
}

// TestDecodeTogether: P27.3, ErrForm of numbers that may not be together, though each may be.
func TestDecodeTogether(t *testing.T) {
	x := rich(t, 1)
	c, b, rows := x.Bus.Card, encoded(t, x), order(x)
	set := func(b []byte, name string, n int) []byte { return with(b, find(t, rows, name), uint32(n)) }
	geometry := func(g timing.Geometry, tick int) []byte {
		own := set(set(b, "Width", g.Width), "Top", g.Top)
		own = set(set(own, "Bottom", g.Bottom), "Blank", g.Blank)
		return set(set(own, "Lines", g.Lines), "Tick", tick)
	}
	for _, r := range []struct {
		g    timing.Geometry
		tick int
		want api.Errno
	}{
		{timing.Geometry{Width: 8, Top: 3, Bottom: 262, Blank: 261, Lines: 262}, 262*1365 - 1, api.OK},
		{timing.Geometry{Width: 8, Top: 3, Bottom: 262, Blank: 261, Lines: 262}, 262 * 1365, api.ErrForm},
		{timing.Geometry{Width: 8, Top: 3, Bottom: 262, Blank: 262, Lines: 262}, 0, api.ErrForm},
		{timing.Geometry{Width: 8, Top: 3, Bottom: 262, Blank: 262, Lines: 263}, 263*1365 - 1, api.OK},
		{timing.Geometry{Width: 8, Top: 3, Bottom: 262, Blank: 261, Lines: 263}, 0, api.ErrForm},
		{timing.Geometry{Width: 8, Top: 3, Bottom: 262, Blank: 262, Lines: 263}, 263 * 1365, api.ErrForm},
		{timing.Geometry{Width: 8, Top: 263, Bottom: 263, Blank: 262, Lines: 263}, 0, api.OK},
		{timing.Geometry{Width: 8, Top: 263, Bottom: 263, Blank: 261, Lines: 262}, 0, api.ErrForm},
		{timing.Geometry{Width: 8, Top: 100, Bottom: 99, Blank: 99, Lines: 262}, 0, api.ErrForm},
		{timing.Geometry{Width: 8, Top: 100, Bottom: 100, Blank: 100, Lines: 262}, 0, api.OK},
		{timing.Geometry{Width: 8, Top: 3, Bottom: 264, Blank: 262, Lines: 263}, 0, api.ErrForm},
		{timing.Geometry{Width: 8, Top: 3, Bottom: 100, Blank: 100, Lines: 261}, 0, api.ErrForm},
		{timing.Geometry{Width: 8, Top: 3, Bottom: 100, Blank: 100, Lines: 264}, 0, api.ErrForm},
		{timing.Geometry{}, 0, api.ErrForm},
	} {
		got, e := Decode(c, geometry(r.g, r.tick))
		if e != r.want || (got != nil) != (e == api.OK) || got != nil && (got.Geometry != r.g || got.Tick != r.tick) {
			t.Errorf("%v, at %d: %v", r.g, r.tick, e)
		}
	}
	off := set(b, "On", 0)
	expectRefused(t, c, off, api.ErrForm, "a timer that stands, with Pre")
	decoded(t, c, set(off, "Pre", 0))
	expectRefused(t, c, set(off, "Pre", 1), api.ErrForm, "a timer that stands, with Pre 1")
	for _, r := range []struct{ k, n int }{{10, 0x20}, {10, 0x80}, {10, 0xe0}, {11, 0x80}, {12, 0x20}, {12, 0xe0}, {3, 1}, {4, 0x100}} {
		expectRefused(t, c, set(b, fmt.Sprint("register ", r.k), r.n), api.ErrForm, fmt.Sprintf("register %d of %x", r.k, r.n))
	}
}

// TestDecodeMemory: P27.3, ErrForm of what vram.Load refuses; else it is the memory that it makes.
func TestDecodeMemory(t *testing.T) {
	x := rich(t, 1)
	c, b, rows := x.Bus.Card, encoded(t, x), order(x)
	for k, r := range []struct {
		name string
		most int
	}{{"write place", 65535}, {"read place", 65535}, {"step", 65535}, {"low byte", 255}, {"buffer", 65535}} {
		at := find(t, rows, r.name)
		for _, n := range []uint32{uint32(r.most + 1), uint32(r.most + 65536), 1 << 24, 1 << 31, 1<<32 - 1} {
			expectRefused(t, c, with(b, at, n), api.ErrForm, fmt.Sprint(r.name, " of ", n))
		}
		for _, n := range []int{0, 1, r.most} {
			y := decoded(t, c, with(b, at, uint32(n)))
			var ports [5]int
			ports[0], ports[1], ports[2], ports[3], ports[4] = y.Bus.Vram.Ports()
			want := [5]int{0x1234, 0x8765, 128, 0xa6, 0xfedc}
			want[k] = n
			if ports != want || !slices.Equal(y.Bus.Vram.Words(0, api.Words), x.Bus.Vram.Words(0, api.Words)) {
				t.Errorf("%s of %d: the ports are %x", r.name, n, ports)
			}
		}
	}
	for _, at := range []int{0, 1, 32766, 32767} {
		for _, w := range []int{0, 1, 0x1234, 0xff00, 65535} {
			own := slices.Clone(b)
			binary.LittleEndian.PutUint16(own[firstWord+2*at:], uint16(w))
			want := twin(x)
			want.Bus.Vram.Poke(at, w)
			expect(t, decoded(t, c, sealed(own)), want, fmt.Sprint("word ", at, " of ", w))
		}
	}
	for _, at := range []int{0, 1, 8190, 8191} {
		own := slices.Clone(b)
		own[firstRam+at] ^= 0xa5
		want := twin(x)
		want.Bus.Ram[at] ^= 0xa5
		expect(t, decoded(t, c, sealed(own)), want, fmt.Sprint("byte ", at, " of Ram"))
	}
}

// TestDecodeOrder: P27.3, of two faults the one that the chapter names first is told.
func TestDecodeOrder(t *testing.T) {
	x := rich(t, 2)
	c, b := x.Bus.Card, encoded(t, x)
	faults := []struct {
		name string
		e    api.Errno
		do   func(b []byte) []byte
	}{ // in the order in which they are told
		{"fewer", api.ErrEnd, func(b []byte) []byte { return b[:len(b)-1] }},
		{"more", api.ErrBig, func(b []byte) []byte { return append(b, 7) }},
		{"mark", api.ErrForm, func(b []byte) []byte { b[4] = 2; return b }},
		{"sum", api.ErrSum, func(b []byte) []byte { b[theSum] ^= 1; return b }},
		{"pages", api.ErrForm, func(b []byte) []byte { b[firstNumber] = 4; return b }},
		{"bool", api.ErrForm, func(b []byte) []byte { b[33] = 2; return b }},
		{"number", api.ErrForm, func(b []byte) []byte { b[10] = 1; return b }},
		{"memory", api.ErrForm, func(b []byte) []byte { b[firstWord-2] = 1; return b }},
	}
	for i, first := range faults {
		if first.e != api.ErrEnd && first.e != api.ErrBig {
			own := first.do(slices.Clone(b))
			if i > 3 {
				own = sealed(own)
			}
			expectRefused(t, c, own, first.e, first.name)
		}
		for k, second := range faults[i+1:] {
			if i == 0 && k == 0 {
				continue // not both fewer and more
			}
			what := first.name + " and " + second.name
			own := second.do(slices.Clone(b))
			if first.e == api.ErrSum || i > 3 {
				own = sealed(own)
			}
			own = first.do(own)
			if i > 3 {
				own = sealed(own)
			}
			expectRefused(t, c, own, first.e, what)
			expectRefused(t, nil, own, api.ErrNil, what+", and no card")
			expectRefused(t, &card.Card{}, own, api.ErrNil, what+", and a card that no call made")
		}
	}
	expectRefused(t, zeros(t, 1), faults[3].do(slices.Clone(b)), api.ErrSum, "the sum, and another card")
	expectRefused(t, zeros(t, 1), faults[2].do(slices.Clone(b)), api.ErrForm, "the mark, and another card")
	expectRefused(t, zeros(t, 1), b[:Size-1], api.ErrEnd, "fewer, and another card")
	expectRefused(t, zeros(t, 1), append(slices.Clone(b), 0), api.ErrBig, "more, and another card")
}

// TestDecodeHandedIn: P27.3, the bytes are neither kept nor changed, nor what lies behind them, with an error and without.
func TestDecodeHandedIn(t *testing.T) {
	x := rich(t, 1)
	c, b := x.Bus.Card, encoded(t, x)
	spare := append(slices.Clone(b), bytes.Repeat([]byte{0x5a}, 1000)...)
	whole := slices.Clone(spare)
	y := decoded(t, c, spare[:Size])
	for _, other := range [][]byte{spare, spare[:Size-1], spare[1 : Size+1], spare[:0]} {
		if _, e := Decode(c, other); e == api.OK {
			t.Error("it is decoded")
		}
	}
	if !bytes.Equal(spare, whole) {
		t.Error("what was handed in is changed")
	}
	for k := range spare {
		spare[k] ^= 0xff
	}
	expect(t, y, x, "behind a change of what was handed in")
	y.RunFrame()
	for k := range spare {
		if spare[k] != whole[k]^0xff {
			t.Fatalf("byte %d of what was handed in is changed by the console", k)
		}
	}
}

// TestDecodeApart: P27.3, two consoles of the same bytes have nothing in common but the card, that is the one handed in.
func TestDecodeApart(t *testing.T) {
	x := rich(t, 1)
	c, b := x.Bus.Card, encoded(t, x)
	y, z := decoded(t, c, b), decoded(t, c, b)
	if y.Bus.Card != c || y == z || y.Bus == z.Bus || y.Bus.Vram == z.Bus.Vram {
		t.Error("another card, or something in common")
	}
	y.Bus.Vram.Poke(5, 5)
	y.Bus.Ram[5]++
	y.RunFrame()
	y.Reset()
	expect(t, z, x, "the other one")
	expect(t, decoded(t, c, b), x, "one more")
}

// TestDecodeSettled: P27.3, Lag is no part of a state: it is 0 behind it.
func TestDecodeSettled(t *testing.T) {
	x := console.New(program(t, 1, 5))
	x.Run(54321)
	if y := decoded(t, x.Bus.Card, encoded(t, x)); y.Bus.Lag != 0 || y.Bus.Timer != x.Bus.Timer {
		t.Errorf("Lag %d, Timer %v", y.Bus.Lag, y.Bus.Timer)
	}
}

// TestFaults: what ends the reading is an error with words of its own, in which errors.Is finds the number.
func TestFaults(t *testing.T) {
	x := rich(t, 1)
	c, b := x.Bus.Card, encoded(t, x)
	seen := map[string]bool{}
	for k, r := range []struct {
		b []byte
		e api.Errno
	}{
		{nil, api.ErrEnd}, {append(slices.Clone(b), 0), api.ErrBig}, {make([]byte, Size), api.ErrForm}, {append(slices.Clone(b[:theSum]), 0, 0, 0, 0), api.ErrSum},
		{with(b, 0, 2), api.ErrForm}, {with(b, 7, 2), api.ErrForm}, {with(b, 1, 256), api.ErrForm}, {with(b, 1088, 256), api.ErrForm},
	} {
		made, err := read(c, r.b)
		if made != nil || !errors.Is(err, r.e) || err == r.e || seen[err.Error()] {
			t.Errorf("bytes %d: %v", k, err)
			continue
		}
		seen[err.Error()] = true
		for _, other := range []api.Errno{api.ErrNil, api.ErrEnd, api.ErrBig, api.ErrForm, api.ErrSum} {
			if other != r.e && errors.Is(err, other) {
				t.Errorf("bytes %d: %v is %v too", k, err, other)
			}
		}
	}
	if made, err := read(c, b); made == nil || err != nil {
		t.Errorf("there is an error: %v", err)
	}
}
