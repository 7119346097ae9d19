package opcode

import (
	"bytes"
	"fmt"
	"math"
	"strconv"
	"strings"
	"testing"
)

// chapter is the chapter's table, as it stands there: eight bytes in each line, from the byte at its left on.
const chapter = `
00 | BRK imp 8 | ORA inx 7 | SXY imp 3 | ST0 imm 4 | TSB zp 6 | ORA zp 4 | ASL zp 6 | RMB0 zp 7
08 | PHP imp 3 | ORA imm 2 | ASL acc 2 | NOP imp 2 | TSB abs 7 | ORA abs 5 | ASL abs 7 | BBR0 zpr 6
10 | BPL rel 2 | ORA iny 7 | ORA ind 7 | ST1 imm 4 | TRB zp 6 | ORA zpx 4 | ASL zpx 6 | RMB1 zp 7
18 | CLC imp 2 | ORA aby 5 | INC acc 2 | NOP imp 2 | TRB abs 7 | ORA abx 5 | ASL abx 7 | BBR1 zpr 6
20 | JSR abs 7 | AND inx 7 | SAX imp 3 | ST2 imm 4 | BIT zp 4 | AND zp 4 | ROL zp 6 | RMB2 zp 7
28 | PLP imp 4 | AND imm 2 | ROL acc 2 | NOP imp 2 | BIT abs 5 | AND abs 5 | ROL abs 7 | BBR2 zpr 6
30 | BMI rel 2 | AND iny 7 | AND ind 7 | NOP imp 2 | BIT zpx 4 | AND zpx 4 | ROL zpx 6 | RMB3 zp 7
38 | SEC imp 2 | AND aby 5 | DEC acc 2 | NOP imp 2 | BIT abx 5 | AND abx 5 | ROL abx 7 | BBR3 zpr 6
40 | RTI imp 7 | EOR inx 7 | SAY imp 3 | TMA imm 4 | BSR rel 8 | EOR zp 4 | LSR zp 6 | RMB4 zp 7
48 | PHA imp 3 | EOR imm 2 | LSR acc 2 | NOP imp 2 | JMP abs 4 | EOR abs 5 | LSR abs 7 | BBR4 zpr 6
50 | BVC rel 2 | EOR iny 7 | EOR ind 7 | TAM imm 5 | CSL imp 3 | EOR zpx 4 | LSR zpx 6 | RMB5 zp 7
58 | CLI imp 2 | EOR aby 5 | PHY imp 3 | NOP imp 2 | NOP imp 2 | EOR abx 5 | LSR abx 7 | BBR5 zpr 6
60 | RTS imp 7 | ADC inx 7 | CLA imp 2 | NOP imp 2 | STZ zp 4 | ADC zp 4 | ROR zp 6 | RMB6 zp 7
68 | PLA imp 4 | ADC imm 2 | ROR acc 2 | NOP imp 2 | JMP jin 7 | ADC abs 5 | ROR abs 7 | BBR6 zpr 6
70 | BVS rel 2 | ADC iny 7 | ADC ind 7 | TII blk 17 | STZ zpx 4 | ADC zpx 4 | ROR zpx 6 | RMB7 zp 7
78 | SEI imp 2 | ADC aby 5 | PLY imp 4 | NOP imp 2 | JMP jix 7 | ADC abx 5 | ROR abx 7 | BBR7 zpr 6
80 | BRA rel 4 | STA inx 7 | CLX imp 2 | TST izp 7 | STY zp 4 | STA zp 4 | STX zp 4 | SMB0 zp 7
88 | DEY imp 2 | BIT imm 2 | TXA imp 2 | NOP imp 2 | STY abs 5 | STA abs 5 | STX abs 5 | BBS0 zpr 6
90 | BCC rel 2 | STA iny 7 | STA ind 7 | TST iab 8 | STY zpx 4 | STA zpx 4 | STX zpy 4 | SMB1 zp 7
98 | TYA imp 2 | STA aby 5 | TXS imp 2 | NOP imp 2 | STZ abs 5 | STA abx 5 | STZ abx 5 | BBS1 zpr 6
a0 | LDY imm 2 | LDA inx 7 | LDX imm 2 | TST izx 7 | LDY zp 4 | LDA zp 4 | LDX zp 4 | SMB2 zp 7
a8 | TAY imp 2 | LDA imm 2 | TAX imp 2 | NOP imp 2 | LDY abs 5 | LDA abs 5 | LDX abs 5 | BBS2 zpr 6
b0 | BCS rel 2 | LDA iny 7 | LDA ind 7 | TST iax 8 | LDY zpx 4 | LDA zpx 4 | LDX zpy 4 | SMB3 zp 7
b8 | CLV imp 2 | LDA aby 5 | TSX imp 2 | NOP imp 2 | LDY abx 5 | LDA abx 5 | LDX aby 5 | BBS3 zpr 6
c0 | CPY imm 2 | CMP inx 7 | CLY imp 2 | TDD blk 17 | CPY zp 4 | CMP zp 4 | DEC zp 6 | SMB4 zp 7
c8 | INY imp 2 | CMP imm 2 | DEX imp 2 | NOP imp 2 | CPY abs 5 | CMP abs 5 | DEC abs 7 | BBS4 zpr 6
d0 | BNE rel 2 | CMP iny 7 | CMP ind 7 | TIN blk 17 | CSH imp 3 | CMP zpx 4 | DEC zpx 6 | SMB5 zp 7
d8 | CLD imp 2 | CMP aby 5 | PHX imp 3 | NOP imp 2 | NOP imp 2 | CMP abx 5 | DEC abx 7 | BBS5 zpr 6
e0 | CPX imm 2 | SBC inx 7 | NOP imp 2 | TIA blk 17 | CPX zp 4 | SBC zp 4 | INC zp 6 | SMB6 zp 7
e8 | INX imp 2 | SBC imm 2 | NOP imp 2 | NOP imp 2 | CPX abs 5 | SBC abs 5 | INC abs 7 | BBS6 zpr 6
f0 | BEQ rel 2 | SBC iny 7 | SBC ind 7 | TAI blk 17 | SET imp 2 | SBC zpx 4 | INC zpx 6 | SMB7 zp 7
f8 | SED imp 2 | SBC aby 5 | PLX imp 4 | NOP imp 2 | NOP imp 2 | SBC abx 5 | INC abx 7 | BBS7 zpr 6
`

// modes are the modes by the names that the chapter's table has, with the numbers and lengths that it gives them.
var modes = map[string]struct{ number, bytes int }{
	"imp": {0, 1}, "acc": {1, 1}, "imm": {2, 2}, "zp": {3, 2}, "zpx": {4, 2}, "zpy": {5, 2}, "inx": {6, 2}, "iny": {7, 2}, "ind": {8, 2},
	"abs": {9, 3}, "abx": {10, 3}, "aby": {11, 3}, "jin": {12, 3}, "jix": {13, 3}, "rel": {14, 2}, "zpr": {15, 3}, "blk": {16, 7},
	"izp": {17, 3}, "izx": {18, 3}, "iab": {19, 4}, "iax": {20, 4},
}

// wanted reads the chapter's table.
func wanted(t *testing.T) [256]Info {
	t.Helper()
	var all [256]Info
	next := 0
	for _, line := range strings.Split(strings.TrimSpace(chapter), "\n") {
		cells := strings.Split(line, "|")
		left, err := strconv.ParseInt(strings.TrimSpace(cells[0]), 16, 0)
		if err != nil || int(left) != next || len(cells) != 9 {
			t.Fatalf("the line %q is not that of %02x", line, next)
		}
		for _, cell := range cells[1:] {
			words := strings.Fields(cell)
			cycles, err := strconv.Atoi(words[2])
			mode, is := modes[words[1]]
			if err != nil || !is {
				t.Fatalf("%02x: %q is no instruction", next, cell)
			}
			all[next] = Info{words[0], mode.number, mode.bytes, cycles}
			next++
		}
	}
	if next != 256 {
		t.Fatalf("the chapter's table has %d bytes", next)
	}
	return all
}

func is(t *testing.T, b int, want Info) {
	t.Helper()
	if got := Of(b); got != want {
		t.Errorf("Of(%#x) = %v, want %v", b, got, want)
	}
}

func tells(t *testing.T, b []byte, text string, n int) {
	t.Helper()
	if s, k := Text(b); s != text || k != n {
		t.Errorf("Text(% x) = %q and %d, want %q and %d", b, s, k, text, n)
	}
}

// TestModes: the numbers that the chapter gives the modes.
func TestModes(t *testing.T) {
	for name, got := range map[string]int{
		"imp": Imp, "acc": Acc, "imm": Imm, "zp": Zp, "zpx": Zpx, "zpy": Zpy, "inx": Inx, "iny": Iny, "ind": Ind, "abs": Abs, "abx": Abx,
		"aby": Aby, "jin": Jin, "jix": Jix, "rel": Rel, "zpr": Zpr, "blk": Blk, "izp": Izp, "izx": Izx, "iab": Iab, "iax": Iax,
	} {
		if want := modes[name].number; got != want {
			t.Errorf("%s = %d, want %d", name, got, want)
		}
	}
}

// TestOf: P7.1, of each byte, and of numbers that are one modulo 256.
func TestOf(t *testing.T) {
	for b, want := range wanted(t) {
		is(t, b, want)
		for _, far := range []int{256, 512, 1 << 16, 1 << 31, 1 << 32, 1 << 40, 1 << 62} {
			is(t, b+far, want)
			is(t, b-far, want)
		}
		is(t, math.MaxInt-255+b, want)
		is(t, math.MinInt+b, want)
	}
}

// TestOfTable: P7.1 and the chapter's example, written out; one of each mode, and the numbers beside the bytes.
func TestOfTable(t *testing.T) {
	for _, x := range []struct {
		b    int
		want Info
	}{
		{0xa9, Info{"LDA", 2, 2, 2}},
		{-1, Info{"BBS7", 15, 3, 6}}, {-256, Info{"BRK", 0, 1, 8}}, {-257, Info{"BBS7", 15, 3, 6}}, {-255, Info{"ORA", 6, 2, 7}},
		{256, Info{"BRK", 0, 1, 8}}, {257, Info{"ORA", 6, 2, 7}}, {255, Info{"BBS7", 15, 3, 6}}, {0, Info{"BRK", 0, 1, 8}},
		{math.MaxInt, Info{"BBS7", 15, 3, 6}}, {math.MaxInt - 1, Info{"INC", 10, 3, 7}}, {math.MinInt, Info{"BRK", 0, 1, 8}}, {math.MinInt + 1, Info{"ORA", 6, 2, 7}},
		{0x0a, Info{"ASL", 1, 1, 2}}, {0x64, Info{"STZ", 3, 2, 4}}, {0x95, Info{"STA", 4, 2, 4}}, {0xb6, Info{"LDX", 5, 2, 4}}, {0x61, Info{"ADC", 6, 2, 7}},
		{0x71, Info{"ADC", 7, 2, 7}}, {0x72, Info{"ADC", 8, 2, 7}}, {0x20, Info{"JSR", 9, 3, 7}}, {0x9e, Info{"STZ", 10, 3, 5}}, {0xbe, Info{"LDX", 11, 3, 5}},
		{0x6c, Info{"JMP", 12, 3, 7}}, {0x7c, Info{"JMP", 13, 3, 7}}, {0x80, Info{"BRA", 14, 2, 4}}, {0x44, Info{"BSR", 14, 2, 8}}, {0x8f, Info{"BBS0", 15, 3, 6}},
		{0xf3, Info{"TAI", 16, 7, 17}}, {0x83, Info{"TST", 17, 3, 7}}, {0xa3, Info{"TST", 18, 3, 7}}, {0x93, Info{"TST", 19, 4, 8}}, {0xb3, Info{"TST", 20, 4, 8}},
	} {
		is(t, x.b, x.want)
	}
}

// TestTextTable: P7.2 and the chapter's example, written out.
func TestTextTable(t *testing.T) {
	for _, x := range []struct {
		b    []byte
		text string
		n    int
	}{
		{nil, "", 0}, {[]byte{}, "", 0},
		{[]byte{0xa9, 0x05}, "LDA 05", 2}, {[]byte{0xa9}, "", 0}, {[]byte{0xa9, 0x05, 0xa9}, "LDA 05", 2},
		{[]byte{0x00}, "BRK", 1}, {[]byte{0x00, 0x00}, "BRK", 1}, {[]byte{0x0a}, "ASL", 1}, {[]byte{0xea}, "NOP", 1}, {[]byte{0xfc, 0xfc, 0xfc}, "NOP", 1},
		{[]byte{0x4c, 0x00, 0xff}, "JMP 00 ff", 3}, {[]byte{0x4c, 0x00}, "", 0}, {[]byte{0xff, 0x9a, 0xa9}, "BBS7 9a a9", 3}, {[]byte{0xff, 0x9a}, "", 0},
		{[]byte{0x93, 0x0f, 0xf0, 0x99}, "TST 0f f0 99", 4}, {[]byte{0x93, 0x0f, 0xf0}, "", 0}, {[]byte{0xb3, 0xbc, 0xde, 0x12, 0x34}, "TST bc de 12", 4},
		{[]byte{0x73, 0x01, 0x23, 0x45, 0x67, 0x89, 0xab}, "TII 01 23 45 67 89 ab", 7}, {[]byte{0x73, 0x01, 0x23, 0x45, 0x67, 0x89}, "", 0}, {[]byte{0x73}, "", 0},
		{[]byte{0xe3, 0xcd, 0xef, 0xfe, 0xdc, 0xba, 0x98, 0x76}, "TIA cd ef fe dc ba 98", 7},
	} {
		tells(t, x.b, x.text, x.n)
	}
}

// behind are bytes to stand behind the first one: digits below and above 9 at both places.
var behind = [][]byte{
	{0x00, 0x00, 0x00, 0x00, 0x00, 0x00, 0x00}, {0x12, 0x34, 0x56, 0x78, 0x90, 0x09, 0x21}, {0xab, 0xcd, 0xef, 0xfa, 0xbe, 0xdc, 0xaf},
	{0x0a, 0xa0, 0x9f, 0xf9, 0x1b, 0xc2, 0xd3}, {0xff, 0xff, 0xff, 0xff, 0xff, 0xff, 0xff}, {0x73, 0x4c, 0xa9, 0xea, 0x93, 0x80, 0x0f},
}

// TestText: P7.2, of each byte with as many bytes as its instruction has, with each smaller number, and with more.
func TestText(t *testing.T) {
	for b, info := range wanted(t) {
		for _, more := range behind {
			all := append([]byte{byte(b)}, more...)
			want := info.Name
			for _, x := range more[:info.Len-1] {
				want += fmt.Sprintf(" %02x", x)
			}
			for n := range len(all) + 1 {
				if n < info.Len {
					tells(t, all[:n], "", 0)
				} else {
					tells(t, all[:n], want, info.Len)
				}
			}
		}
	}
}

// TestTextDigits: P7.2, of each byte behind the first one.
func TestTextDigits(t *testing.T) {
	for x := range 256 {
		tells(t, []byte{0xa9, byte(x)}, fmt.Sprintf("LDA %02x", x), 2)
		tells(t, []byte{0x20, byte(x), byte(255 - x)}, fmt.Sprintf("JSR %02x %02x", x, 255-x), 3)
	}
}

// TestTextLong: P7.2, of many more bytes than the instruction has.
func TestTextLong(t *testing.T) {
	long := bytes.Repeat([]byte{0xc3, 0x1e}, 1<<16)
	tells(t, long, "TDD 1e c3 1e c3 1e c3", 7)
	tells(t, long[1:], "ASL c3 1e", 3)
}

// TestTextLeaves: P7.2, what is handed in stays as it was, its spare room neither read nor written.
func TestTextLeaves(t *testing.T) {
	for b := range 256 {
		room := []byte{byte(b), 1, 2, 3, 4, 5, 6, 7, 8}
		before := bytes.Clone(room)
		for n := range len(room) {
			Text(room[:n])
			if !bytes.Equal(room, before) {
				t.Fatalf("Text of %d bytes made % x of % x", n, room, before)
			}
		}
	}
}

// TestEachByte: P7.3, of each byte: it has an instruction, of 1 to 7 bytes.
func TestEachByte(t *testing.T) {
	for b := range 256 {
		info := Of(b)
		if info.Name == "" || info.Len < 1 || info.Len > 7 || info.Cycles < 2 || info.Mode < 0 || info.Mode > 20 {
			t.Errorf("Of(%#x) = %v, that is no instruction", b, info)
		}
	}
}

// TestNotOwn: P7.3, the 22 bytes that have no instruction of their own, written out, and that there are no others.
func TestNotOwn(t *testing.T) {
	none := []byte{
		0x0b, 0x1b, 0x2b, 0x33, 0x3b, 0x4b, 0x5b, 0x5c, 0x63, 0x6b, 0x7b,
		0x8b, 0x9b, 0xab, 0xbb, 0xcb, 0xdb, 0xdc, 0xe2, 0xeb, 0xfb, 0xfc,
	}
	if len(none) != 22 {
		t.Fatalf("%d bytes are written out", len(none))
	}
	nop := Info{"NOP", 0, 1, 2}
	for b := range 256 {
		if got, want := Of(b) == nop, b == 0xea || bytes.IndexByte(none, byte(b)) >= 0; got != want {
			t.Errorf("Of(%#x) = %v, want NOP: %v", b, Of(b), want)
		}
		if Of(b).Name == "NOP" && Of(b) != nop {
			t.Errorf("Of(%#x) = %v, want %v", b, Of(b), nop)
		}
	}
}

// TestOwn: P7.3, the 234 other bytes have instructions of their own: no two are the same, by name and mode.
func TestOwn(t *testing.T) {
	type own struct {
		name string
		mode int
	}
	first := map[own]int{}
	for b := range 256 {
		x := own{Of(b).Name, Of(b).Mode}
		at, was := first[x]
		if was && x.name != "NOP" {
			t.Errorf("%#x and %#x are both %v", at, b, x)
		}
		if !was {
			first[x] = b
		}
	}
	if len(first) != 256-22 {
		t.Errorf("%d instructions, want %d", len(first), 256-22)
	}
}
