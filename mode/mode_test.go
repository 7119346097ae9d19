package mode

import (
	"math"
	"testing"

	"phosphor/opcode"
)

// edges are numbers at and beside those that the chapter cuts at, below 0, and at both ends of int.
var edges = []int{
	0, 1, 127, 128, 254, 255, 256, 257, 8191, 8192, 65280, 65535, 65536, 65537,
	-1, -2, -128, -255, -256, -257, -65535, -65536, -65537,
	math.MaxInt, math.MaxInt - 1, math.MaxInt - 255, math.MinInt, math.MinInt + 1, math.MinInt + 255,
}

// noModes are numbers that no mode has.
var noModes = []int{-1, 21, 22, -21, 256, 259, -253, 65536 + 9, math.MaxInt, math.MinInt, math.MinInt + 3}

// modulo divides, where the package masks.
func modulo(n, m int) int { return (n%m + m) % m }

func byteOf(a, b int) int { return (modulo(a, 256) + modulo(b, 256)) % 256 }
func sumOf(a, b int) int  { return (modulo(a, 65536) + modulo(b, 65536)) % 65536 }

// What a place is made of: nothing, the operand in the zero page, the operand's word, or the pointer; and which register goes with it.
const (
	none = iota
	zero
	word
	pointed
)

const (
	no = iota
	withX
	withY
)

// meanings are P8.1 and P8.2 by the modes' numbers, written out.
var meanings = [21]struct {
	pointer, pointerRegister, address, addressRegister int
}{
	0:  {none, no, none, no},
	1:  {none, no, none, no},
	2:  {none, no, none, no},
	3:  {none, no, zero, no},
	4:  {none, no, zero, withX},
	5:  {none, no, zero, withY},
	6:  {zero, withX, pointed, no},
	7:  {zero, no, pointed, withY},
	8:  {zero, no, pointed, no},
	9:  {none, no, word, no},
	10: {none, no, word, withX},
	11: {none, no, word, withY},
	12: {word, no, pointed, no},
	13: {word, withX, pointed, no},
	14: {none, no, none, no},
	15: {none, no, zero, no},
	16: {none, no, none, no},
	17: {none, no, zero, no},
	18: {none, no, zero, withX},
	19: {none, no, word, no},
	20: {none, no, word, withX},
}

func placeOf(meaning, register, x, y, operand, pointer int) (int, bool) {
	index := [3]int{no: 0, withX: x, withY: y}[register]
	switch meaning {
	case zero:
		return 8192 + byteOf(operand, index), true
	case word:
		return sumOf(operand, index), true
	case pointed:
		return sumOf(pointer, index), true
	}
	return 0, false
}

func wantPointer(mode, x, operand int) (int, bool, bool) {
	m := meanings[mode]
	at, has := placeOf(m.pointer, m.pointerRegister, x, 0, operand, 0)
	return at, m.pointer == zero, has
}

func seePointer(t *testing.T, mode, x, operand, at int, wraps, has bool) {
	t.Helper()
	if a, w, h := Pointer(mode, x, operand); a != at || w != wraps || h != has {
		t.Fatalf("Pointer(%d, %d, %d) = %d, %v, %v, want %d, %v, %v", mode, x, operand, a, w, h, at, wraps, has)
	}
}

func seeAddress(t *testing.T, mode, x, y, operand, pointer, at int, has bool) {
	t.Helper()
	if a, h := Address(mode, [2]int{x, y}, operand, pointer); a != at || h != has {
		t.Fatalf("Address(%d, {%d, %d}, %d, %d) = %d, %v, want %d, %v", mode, x, y, operand, pointer, a, h, at, has)
	}
}

// TestPointerTable: P8.1, each mode once, written out.
func TestPointerTable(t *testing.T) {
	for _, x := range []struct {
		mode, x, operand, at int
		wraps, has           bool
	}{
		{opcode.Inx, 3, 0xfe, 0x2001, true, true},
		{opcode.Inx, 0, 0xfe, 0x20fe, true, true},
		{opcode.Inx, 255, 255, 0x20fe, true, true},
		{opcode.Inx, 256, 0x1234, 0x2034, true, true},
		{opcode.Inx, -1, 0, 0x20ff, true, true},
		{opcode.Iny, 3, 0xfe, 0x20fe, true, true},
		{opcode.Iny, 3, 0x1ff, 0x20ff, true, true},
		{opcode.Ind, 3, 0xfe, 0x20fe, true, true},
		{opcode.Ind, 3, -1, 0x20ff, true, true},
		{opcode.Jin, 3, 0xfffe, 0xfffe, false, true},
		{opcode.Jin, 3, 0x10005, 5, false, true},
		{opcode.Jix, 3, 0xfffe, 1, false, true},
		{opcode.Jix, 3, 0x1234, 0x1237, false, true},
		{opcode.Jix, 0x100, 0x1234, 0x1334, false, true},
		{opcode.Jix, math.MaxInt, 2, 1, false, true},
		{opcode.Zp, 3, 5, 0, false, false},
		{opcode.Abs, 3, 5, 0, false, false},
		{opcode.Imm, 3, 5, 0, false, false},
	} {
		seePointer(t, x.mode, x.x, x.operand, x.at, x.wraps, x.has)
	}
}

// TestPointerModes: P8.1, each mode with each edge as x and as operand.
func TestPointerModes(t *testing.T) {
	for mode := range meanings {
		for _, x := range edges {
			for _, operand := range edges {
				at, wraps, has := wantPointer(mode, x, operand)
				seePointer(t, mode, x, operand, at, wraps, has)
			}
		}
	}
}

// TestPointerBytes: P8.1, each byte with each x.
func TestPointerBytes(t *testing.T) {
	for mode := range meanings {
		for x := range 256 {
			for operand := range 256 {
				at, wraps, has := wantPointer(mode, x, operand)
				seePointer(t, mode, x, operand, at, wraps, has)
			}
		}
	}
}

// TestPointerWords: P8.1, each word as the operand of those modes that take a word.
func TestPointerWords(t *testing.T) {
	for operand := range 65536 {
		for _, x := range []int{0, 1, 255} {
			seePointer(t, opcode.Jin, x, operand, operand, false, true)
			seePointer(t, opcode.Jix, x, operand, (operand+x)%65536, false, true)
		}
	}
}

// TestAddressTable: P8.2 and the chapter's example, each mode, written out.
func TestAddressTable(t *testing.T) {
	for _, x := range []struct {
		mode, x, y, operand, pointer, at int
		has                              bool
	}{
		{opcode.Zpx, 1, 0, 0xff, 0, 0x2000, true},
		{opcode.Zp, 1, 2, 0xff, 0x1234, 0x20ff, true},
		{opcode.Zp, 1, 2, 0x1ff, 0x1234, 0x20ff, true},
		{opcode.Zpr, 1, 2, 0x10, 0x1234, 0x2010, true},
		{opcode.Izp, 1, 2, 0x10, 0x1234, 0x2010, true},
		{opcode.Zpx, 1, 2, 0x10, 0x1234, 0x2011, true},
		{opcode.Izx, 1, 2, 0x10, 0x1234, 0x2011, true},
		{opcode.Izx, 1, 2, 0xff, 0x1234, 0x2000, true},
		{opcode.Zpy, 1, 2, 0x10, 0x1234, 0x2012, true},
		{opcode.Zpy, 1, 2, 0xfe, 0x1234, 0x2000, true},
		{opcode.Abs, 1, 2, 0xfff8, 0x1234, 0xfff8, true},
		{opcode.Abs, 1, 2, 0x1fff8, 0x1234, 0xfff8, true},
		{opcode.Iab, 9, 9, 0x4321, 0x1234, 0x4321, true},
		{opcode.Abx, 0x10, 0x20, 0xfff8, 0x1234, 8, true},
		{opcode.Iax, 0x10, 0x20, 0xfff8, 0x1234, 8, true},
		{opcode.Aby, 0x10, 0x20, 0xfff8, 0x1234, 0x18, true},
		{opcode.Aby, 0x10, 0x20, 0x20f0, 0x1234, 0x2110, true},
		{opcode.Inx, 5, 6, 0x4321, 0x1234, 0x1234, true},
		{opcode.Ind, 5, 6, 0x4321, 0x1234, 0x1234, true},
		{opcode.Jin, 5, 6, 0x4321, 0x1234, 0x1234, true},
		{opcode.Jix, 5, 6, 0x4321, 0x1234, 0x1234, true},
		{opcode.Jix, 5, 6, 0x4321, -1, 0xffff, true},
		{opcode.Iny, 5, 6, 0x4321, 0x1234, 0x123a, true},
		{opcode.Iny, 5, 6, 0x4321, 0xffff, 5, true},
		{opcode.Iny, 5, 6, 0x4321, 0x20ff, 0x2105, true},
		{opcode.Imp, 5, 6, 7, 8, 0, false},
		{opcode.Acc, 5, 6, 7, 8, 0, false},
		{opcode.Imm, 5, 6, 7, 8, 0, false},
		{opcode.Rel, 5, 6, 7, 8, 0, false},
		{opcode.Blk, 5, 6, 7, 8, 0, false},
	} {
		seeAddress(t, x.mode, x.x, x.y, x.operand, x.pointer, x.at, x.has)
	}
}

// TestAddressModes: P8.2, each mode with each edge as a register, as operand and as pointer.
func TestAddressModes(t *testing.T) {
	for mode, m := range meanings {
		for _, x := range edges {
			for _, y := range edges {
				for _, operand := range edges {
					for _, pointer := range edges {
						at, has := placeOf(m.address, m.addressRegister, x, y, operand, pointer)
						seeAddress(t, mode, x, y, operand, pointer, at, has)
					}
				}
			}
		}
	}
}

// TestAddressWords: P8.2, each word as operand and as pointer.
func TestAddressWords(t *testing.T) {
	for mode, m := range meanings {
		for n := range 65536 {
			at, has := placeOf(m.address, m.addressRegister, 3, 250, n, 65535-n)
			seeAddress(t, mode, 3, 250, n, 65535-n, at, has)
		}
	}
}

// TestNoModes: P8.1 and P8.2, numbers that no mode has, also such that have a mode's number modulo 256 or as a word.
func TestNoModes(t *testing.T) {
	for _, mode := range noModes {
		for _, a := range edges {
			for _, b := range edges {
				seePointer(t, mode, a, b, 0, false, false)
				seeAddress(t, mode, a, b, b, a, 0, false)
			}
		}
	}
}

// TestTargetTable: P8.3 and the chapter's example, written out.
func TestTargetTable(t *testing.T) {
	for _, x := range [][3]int{
		{0x1000, 0xfe, 0xffe}, {0x1000, 0, 0x1000}, {0x1000, 1, 0x1001}, {0x1000, 0x7f, 0x107f}, {0x1000, 0x80, 0xf80}, {0x1000, 0xff, 0xfff},
		{0x1000, -1, 0xfff}, {0x1000, 256, 0x1000}, {0x1000, 257, 0x1001}, {0x1000, -128, 0xf80}, {0x1000, -129, 0x107f},
		{0x1000, math.MaxInt, 0xfff}, {0x1000, math.MinInt, 0x1000},
		{0, 0, 0}, {0, 0xff, 0xffff}, {0, 0x80, 0xff80}, {0, 0x7f, 0x7f}, {0x7f, 0x80, 0xffff}, {0x80, 0x80, 0},
		{0xffff, 0, 0xffff}, {0xffff, 1, 0}, {0xffff, 0x7f, 0x7e}, {0xffff, 0xff, 0xfffe}, {0xff80, 0x7f, 0xffff}, {0xff81, 0x7f, 0},
		{-1, 0, 0xffff}, {-1, 1, 0}, {65536, 0xff, 0xffff}, {65536, 0, 0}, {-65536, 0xff, 0xffff},
		{math.MaxInt, 0x7f, 0x7e}, {math.MaxInt, 0xff, 0xfffe}, {math.MinInt, 0x80, 0xff80}, {math.MinInt, 1, 1},
	} {
		if got := Target(x[0], x[1]); got != x[2] {
			t.Errorf("Target(%d, %d) = %d, want %d", x[0], x[1], got, x[2])
		}
	}
}

// TestTargetEdges: P8.3, each offset, those beside them and each edge, from each edge.
func TestTargetEdges(t *testing.T) {
	offsets := append([]int{}, edges...)
	for n := -1; n <= 256; n++ {
		offsets = append(offsets, n)
	}
	for _, pc := range edges {
		for _, offset := range offsets {
			far := modulo(offset, 256)
			if far > 127 {
				far -= 256
			}
			if got, want := Target(pc, offset), sumOf(pc, far); got != want {
				t.Fatalf("Target(%d, %d) = %d, want %d", pc, offset, got, want)
			}
		}
	}
}

// TestAfterTable: P8.3, written out.
func TestAfterTable(t *testing.T) {
	for _, x := range []struct{ at, plain, wrapped int }{
		{0x2000, 0x2001, 0x2001}, {0x20fe, 0x20ff, 0x20ff}, {0x20ff, 0x2100, 0x2000}, {0x2100, 0x2101, 0x2001},
		{0, 1, 0x2001}, {0x1234, 0x1235, 0x2035}, {0x12ff, 0x1300, 0x2000}, {0xfffe, 0xffff, 0x20ff}, {0xffff, 0, 0x2000},
		{-1, 0, 0x2000}, {-2, 0xffff, 0x20ff}, {65536, 1, 0x2001}, {65537, 2, 0x2002}, {-65536, 1, 0x2001},
		{math.MaxInt, 0, 0x2000}, {math.MaxInt - 1, 0xffff, 0x20ff}, {math.MinInt, 1, 0x2001},
	} {
		if got := After(x.at, false); got != x.plain {
			t.Errorf("After(%d, false) = %d, want %d", x.at, got, x.plain)
		}
		if got := After(x.at, true); got != x.wrapped {
			t.Errorf("After(%d, true) = %d, want %d", x.at, got, x.wrapped)
		}
	}
}

// TestAfterPlaces: P8.3, each place from one word below 0 to one beyond a word.
func TestAfterPlaces(t *testing.T) {
	for at := -65537; at <= 2*65536; at++ {
		if got := After(at, false); got != sumOf(at, 1) {
			t.Fatalf("After(%d, false) = %d", at, got)
		}
		if got := After(at, true); got != 8192+byteOf(at, 1) {
			t.Fatalf("After(%d, true) = %d", at, got)
		}
	}
}

// TestStaysInZeroPage: P8.4, each byte with each register; told by counting on round the page.
func TestStaysInZeroPage(t *testing.T) {
	for operand := range 256 {
		at := 8192 + operand
		for register := range 256 {
			seeAddress(t, opcode.Zpx, register, 77, operand, 0, at, true)
			seeAddress(t, opcode.Izx, register, 77, operand, 0, at, true)
			seeAddress(t, opcode.Zpy, 77, register, operand, 0, at, true)
			seePointer(t, opcode.Inx, register, operand, at, true, true)
			next := at + 1
			if next > 0x20ff {
				next = 0x2000
			}
			if got := After(at, true); got != next {
				t.Fatalf("After(%d, true) = %d, want %d", at, got, next)
			}
			at = next
		}
	}
}

// TestGreatRegisters: P8.4, however great the registers and the operand are.
func TestGreatRegisters(t *testing.T) {
	within := func(at int, has bool) bool { return has && at >= 0x2000 && at <= 0x20ff }
	for _, operand := range edges {
		for _, register := range edges {
			for _, mode := range []int{opcode.Zp, opcode.Zpr, opcode.Izp, opcode.Zpx, opcode.Izx, opcode.Zpy} {
				if !within(Address(mode, [2]int{register, register}, operand, register)) {
					t.Errorf("mode %d leaves the zero page with %d and %d", mode, operand, register)
				}
			}
			for _, mode := range []int{opcode.Inx, opcode.Iny, opcode.Ind} {
				at, wraps, has := Pointer(mode, register, operand)
				if !within(at, has) || !within(After(at, wraps), true) {
					t.Errorf("the pointer of mode %d leaves the zero page with %d and %d", mode, operand, register)
				}
			}
		}
	}
}

// TestBranchReach: P8.4, from each place all places from 128 back to 127 on are reached, each by one offset.
func TestBranchReach(t *testing.T) {
	for pc := range 65536 {
		var reached [256]bool
		for offset := range 256 {
			far := modulo(Target(pc, offset)-pc+128, 65536)
			if far > 255 || reached[far] {
				t.Fatalf("Target(%d, %d) = %d", pc, offset, Target(pc, offset))
			}
			reached[far] = true
		}
	}
	if back, on := Target(0x8000, 0x80), Target(0x8000, 0x7f); back != 0x8000-128 || on != 0x8000+127 {
		t.Errorf("a branch at 8000 reaches from %d to %d", back, on)
	}
}
