package pad

import (
	"math"
	"testing"
)

// indexes are those that a port may have, those beside them, some that are such modulo a byte, a word or the greatest numbers, and both ends of int.
var indexes = []int{
	-1, 0, 1, 2, 3, 4, 5, 6,
	7, 8, 255, 256, 257, 65536, 1 << 32, -2, -5, -6, -251, -256, -65536, -1 << 32,
	math.MaxInt, math.MaxInt - 1, math.MinInt, math.MinInt + 1,
}

// notBytes are written besides all bytes.
var notBytes = []int{
	256, 257, 258, 259, 260, -1, -2, -3, -4, -5, -253, -256, 65536, 65537, 65538, 65539, 1 << 32, 1<<32 + 3,
	math.MaxInt, math.MaxInt - 1, math.MaxInt - 2, math.MaxInt - 3, math.MinInt, math.MinInt + 1, math.MinInt + 2, math.MinInt + 3,
}

var bools = []bool{false, true}

// written are all bytes, and numbers that are none.
func written() []int {
	all := append([]int{}, notBytes...)
	for b := range 256 {
		all = append(all, b)
	}
	return all
}

// ports are all ways that a port may stand in, right or not.
func ports() []Port {
	var all []Port
	for _, index := range indexes {
		for _, sel := range bools {
			for _, clr := range bools {
				for _, second := range bools {
					all = append(all, Port{sel, clr, second, index})
				}
			}
		}
	}
	return all
}

// someKeys are the numbers of keys that are named, each bit alone, each bit missing, and numbers that are no words.
func someKeys() []int {
	all := []int{0, 65535, 65536, 65537, -1, -2, -65536, -65535, 0x21, 0x321, 0x4321, 0xabc, math.MaxInt, math.MaxInt - 65535, math.MinInt, math.MinInt + 0x5a3}
	for k := range 64 {
		all = append(all, 1<<k, ^(1 << k))
	}
	return all
}

// modulo divides, where the package masks.
func modulo(n, m int) int { return (n%m + m) % m }

// steps are what Index becomes where it goes on; all others become 5.
var steps = map[int]int{0: 1, 1: 2, 2: 3, 3: 4, 4: 5, 5: 5}

// stays are the indexes that count as they are; all others count as 5.
var stays = map[int]int{0: 0, 1: 1, 2: 2, 3: 3, 4: 4, 5: 5}

func from(table map[int]int, index int) int {
	if n, ok := table[index]; ok {
		return n
	}
	return 5
}

// wantIndex is what P23.1 says of Index, by the lowest two bits of what is written.
func wantIndex(p Port, low int) int {
	if low >= 2 {
		return 0
	}
	if low == 1 && !p.Sel {
		return from(steps, p.Index)
	}
	return from(stays, p.Index)
}

// TestWriteFields: P23.1, each field behind every byte and other numbers, from ports of each kind.
func TestWriteFields(t *testing.T) {
	for _, p := range ports() {
		for _, b := range written() {
			got, low := Write(p, b), modulo(b, 4)
			if want := low == 1 || low == 3; got.Sel != want {
				t.Fatalf("Write(%+v, %d): Sel is %v", p, b, got.Sel)
			}
			if want := low == 2 || low == 3; got.Clr != want {
				t.Fatalf("Write(%+v, %d): Clr is %v", p, b, got.Clr)
			}
			turned := low >= 2 && !p.Clr
			if (got.Second != p.Second) != turned {
				t.Fatalf("Write(%+v, %d): Second is %v", p, b, got.Second)
			}
			if want := wantIndex(p, low); got.Index != want {
				t.Fatalf("Write(%+v, %d): Index is %d, want %d", p, b, got.Index, want)
			}
		}
	}
}

// TestWriteTable: P23.1, written out.
func TestWriteTable(t *testing.T) {
	for _, c := range []struct {
		p    Port
		b    int
		want Port
	}{
		{Port{}, 0, Port{}},
		{Port{}, 1, Port{true, false, false, 1}},
		{Port{}, 2, Port{false, true, true, 0}},
		{Port{}, 3, Port{true, true, true, 0}},
		{Port{}, 252, Port{}},
		{Port{}, 253, Port{true, false, false, 1}},
		{Port{}, 256, Port{}},
		{Port{}, 257, Port{true, false, false, 1}},
		{Port{}, -1, Port{true, true, true, 0}},
		{Port{}, math.MaxInt, Port{true, true, true, 0}},
		{Port{}, math.MinInt, Port{}},
		// Sel that stays on, or is turned off, does not go on.
		{Port{true, false, true, 3}, 1, Port{true, false, true, 3}},
		{Port{true, false, true, 3}, 0, Port{false, false, true, 3}},
		{Port{false, false, true, 3}, 0, Port{false, false, true, 3}},
		{Port{false, false, true, 3}, 1, Port{true, false, true, 4}},
		// Clr that is turned off with Sel turned on goes on, and leaves Second.
		{Port{false, true, true, 0}, 1, Port{true, false, true, 1}},
		{Port{true, true, true, 0}, 1, Port{true, false, true, 0}},
		// Clr that stays on leaves Second.
		{Port{false, true, true, 0}, 2, Port{false, true, true, 0}},
		{Port{false, true, false, 4}, 3, Port{true, true, false, 0}},
		{Port{true, false, true, 4}, 3, Port{true, true, false, 0}},
		{Port{true, false, true, 4}, 2, Port{false, true, false, 0}},
		// 5 is the last.
		{Port{false, false, false, 4}, 1, Port{true, false, false, 5}},
		{Port{false, false, false, 5}, 1, Port{true, false, false, 5}},
		{Port{false, false, false, 5}, 0, Port{false, false, false, 5}},
		// What is no Index counts as 5.
		{Port{false, false, false, -1}, 1, Port{true, false, false, 5}},
		{Port{false, false, false, 6}, 1, Port{true, false, false, 5}},
		{Port{false, false, false, math.MaxInt}, 1, Port{true, false, false, 5}},
		{Port{false, false, false, math.MinInt}, 1, Port{true, false, false, 5}},
		{Port{true, false, false, -1}, 1, Port{true, false, false, 5}},
		{Port{true, false, true, 6}, 0, Port{false, false, true, 5}},
		{Port{true, false, true, math.MinInt}, 2, Port{false, true, false, 0}},
	} {
		if got := Write(c.p, c.b); got != c.want {
			t.Errorf("Write(%+v, %d) = %+v, want %+v", c.p, c.b, got, c.want)
		}
	}
}

// padSets puts a pad at each of the five places, among others that have other keys and the other number of buttons.
func padSets(one Pad) [5][5]Pad {
	var sets [5][5]Pad
	for k := range sets {
		for other := range sets[k] {
			sets[k][other] = Pad{^one.Keys, !one.Six}
		}
		sets[k][k] = one
	}
	return sets
}

// wantFour is what P23.2 says of the lowest four bits.
func wantFour(p Port, pads [5]Pad) int {
	if p.Index < 0 || p.Index > 4 {
		return 15
	}
	one := pads[p.Index]
	keys := modulo(one.Keys, 65536)
	if p.Second && one.Six {
		if p.Sel {
			return 0
		}
		return 15 - keys/256%16
	}
	if p.Sel {
		return 15 - keys/16%16
	}
	return 15 - keys%16
}

// seeRead holds both halves of what is read, each alone, abroad and at home.
func seeRead(t *testing.T, p Port, pads [5]Pad) {
	t.Helper()
	for abroad, upper := range map[bool]int{true: 0xb, false: 0xf} {
		got := Read(p, pads, abroad)
		if got>>4 != upper {
			t.Fatalf("Read(%+v, %v, %v) = %x, want %x in its upper bits", p, pads, abroad, got, upper)
		}
		if want := wantFour(p, pads); got&15 != want {
			t.Fatalf("Read(%+v, %v, %v) = %x, want %x in its lowest bits", p, pads, abroad, got, want)
		}
	}
}

// TestRead: P23.2, ports of each kind, with pads of each kind and keys at their edges at each place.
func TestRead(t *testing.T) {
	all := ports()
	for _, keys := range someKeys() {
		for _, six := range bools {
			for _, pads := range padSets(Pad{keys, six}) {
				for _, p := range all {
					seeRead(t, p, pads)
				}
			}
		}
	}
}

// TestReadEachKeys: P23.2, all numbers of keys of a pad with six buttons and of one without, in each way that they are asked.
func TestReadEachKeys(t *testing.T) {
	for keys := -100; keys < 65536+100; keys++ {
		for _, six := range bools {
			pads := [5]Pad{3: {keys, six}}
			for _, sel := range bools {
				for _, second := range bools {
					seeRead(t, Port{sel, false, second, 3}, pads)
				}
			}
		}
	}
}

// TestReadClr: P23.2, Clr makes no difference.
func TestReadClr(t *testing.T) {
	for _, p := range ports() {
		for _, six := range bools {
			for _, abroad := range bools {
				pads := [5]Pad{{0x123, six}, {0x246, six}, {0x48c, six}, {0x8f1, six}, {0x15a, six}}
				other := p
				other.Clr = !p.Clr
				if a, b := Read(p, pads, abroad), Read(other, pads, abroad); a != b {
					t.Fatalf("Read(%+v) = %x, with the other Clr %x", p, a, b)
				}
			}
		}
	}
}

// TestReadTable: P23.2, written out.
func TestReadTable(t *testing.T) {
	pads := [5]Pad{{0x321, false}, {0x321, true}, {-1, false}, {65536, true}, {0xfffff000, true}}
	for _, c := range []struct {
		p      Port
		abroad bool
		want   int
	}{
		{Port{false, false, false, 0}, true, 0xbe},
		{Port{false, false, false, 0}, false, 0xfe},
		{Port{true, false, false, 0}, true, 0xbd},
		{Port{false, false, true, 0}, true, 0xbe},
		{Port{true, false, true, 0}, false, 0xfd},
		{Port{false, false, false, 1}, true, 0xbe},
		{Port{true, false, false, 1}, true, 0xbd},
		{Port{false, false, true, 1}, true, 0xbc},
		{Port{false, true, true, 1}, false, 0xfc},
		{Port{true, false, true, 1}, true, 0xb0},
		{Port{true, false, true, 1}, false, 0xf0},
		{Port{false, false, true, 2}, true, 0xb0},
		{Port{true, false, false, 2}, false, 0xf0},
		{Port{false, false, false, 3}, true, 0xbf},
		{Port{true, false, true, 3}, true, 0xb0},
		{Port{false, false, true, 4}, false, 0xff},
		{Port{true, false, false, 4}, false, 0xff},
		{Port{true, false, true, 5}, false, 0xff},
		{Port{true, false, true, 5}, true, 0xbf},
		{Port{false, false, false, -1}, true, 0xbf},
		{Port{true, false, true, 6}, false, 0xff},
		{Port{true, false, true, math.MaxInt}, true, 0xbf},
		{Port{false, false, false, math.MinInt}, false, 0xff},
	} {
		if got := Read(c.p, pads, c.abroad); got != c.want {
			t.Errorf("Read(%+v, %v) = %x, want %x", c.p, c.abroad, got, c.want)
		}
	}
}

// onlyPad are pads of which that one has keys pressed, others in each of its fours; none has, where it is no pad.
func onlyPad(n int, six bool) [5]Pad {
	var pads [5]Pad
	if n < len(pads) {
		pads[n] = Pad{0x7953, six}
	}
	return pads
}

// ofThatPad is what is read of the one that onlyPad presses.
func ofThatPad(p Port, six bool) int {
	switch {
	case p.Second && six && p.Sel:
		return 0xb0
	case p.Second && six:
		return 0xb6
	case p.Sel:
		return 0xba
	}
	return 0xbc
}

// seeAsked holds a port that asks for the pad n: that one is read, and no other one; none, where it is no pad.
func seeAsked(t *testing.T, p Port, n int) {
	t.Helper()
	for _, six := range bools {
		for k := range 6 {
			want := 0xbf
			if k == n && n < 5 {
				want = ofThatPad(p, six)
			}
			if got := Read(p, onlyPad(k, six), true); got != want {
				t.Fatalf("%+v asks for pad %d, six %v: with keys of pad %d alone %x is read, want %x", p, n, six, k, got, want)
			}
		}
	}
}

// TestAsk: P23.3, behind Clr, with Sel and without, and so many times Sel, off and on, from ports that begin in any way.
func TestAsk(t *testing.T) {
	for _, begin := range ports() {
		for _, clear := range []int{2, 3, 0xfe, 0xff, 258, -1, -2} {
			p := Write(begin, clear)
			seeAsked(t, p, 0)
			for times := 1; times <= 7; times++ {
				p = Write(p, 0)
				seeAsked(t, p, times-1)
				p = Write(p, 1)
				seeAsked(t, p, times)
				// Sel that stays on asks for no other one.
				p = Write(p, 1)
				seeAsked(t, p, times)
			}
			p = Write(Write(p, 0), 0)
			seeAsked(t, p, 7)
		}
	}
}

// TestAskSecond: P23.3, every other Clr asks pads with six buttons for those besides, and all of them in turn.
func TestAskSecond(t *testing.T) {
	pads := [5]Pad{{0x321, true}, {0x432, false}, {0x543, true}, {0x654, false}, {0x765, true}}
	first := [][2]int{{0xbd, 0xbe}, {0xbc, 0xbd}, {0xbb, 0xbc}, {0xba, 0xbb}, {0xb9, 0xba}, {0xbf, 0xbf}, {0xbf, 0xbf}}
	second := [][2]int{{0xb0, 0xbc}, {0xbc, 0xbd}, {0xb0, 0xba}, {0xba, 0xbb}, {0xb0, 0xb8}, {0xbf, 0xbf}, {0xbf, 0xbf}}
	p := Port{Second: true}
	for _, want := range [][][2]int{first, second, first, second} {
		p = Write(Write(Write(p, 1), 3), 1)
		for k, both := range want {
			if k > 0 {
				p = Write(p, 1)
			}
			with := Read(p, pads, true)
			p = Write(p, 0)
			if without := Read(p, pads, true); with != both[0] || without != both[1] {
				t.Errorf("pad %d: %x and %x, want %x and %x", k, with, without, both[0], both[1])
			}
		}
	}
}

// TestExample: the chapter's, with the directions of each four alone.
func TestExample(t *testing.T) {
	p := Write(Write(Write(Port{}, 1), 3), 1)
	if want := (Port{true, false, true, 0}); p != want {
		t.Fatalf("behind 1, 3, 1: %+v, want %+v", p, want)
	}
	for k := range 16 {
		pads := [5]Pad{{Keys: 0xf0f | k<<4}, {Keys: 0xf0}, {Keys: 0xf0}, {Keys: 0xf0}, {Keys: 0xf0}}
		if got := Read(p, pads, false); got != 0xff-k {
			t.Errorf("with directions %x: %x, want %x", k, got, 0xff-k)
		}
	}
}
