package cpu

import (
	"fmt"
	"math"
	"strings"
	"testing"

	"phosphor/api"
)

// row is an instruction: its bytes, what is named before it (see apply), what is another behind it, and its cycles. All that is not named is as begin and machine have it, and stays; PC goes on by the bytes, unless it is named.
// The flags: C 01, Z 02, I 04, D 08, B 10, T 20, V 40, N 80.
type row struct {
	code, before, after string
	cycles              int
}

// first tells the instruction's first byte.
func (r row) first(t testing.TB) int { return hex(t, strings.Fields(r.code)[0]) }

// gathers tells whether it is one of those that T changes: ORA, AND, EOR and ADC.
func (r row) gathers(t testing.TB) bool {
	first := r.first(t)
	return first < 0x80 && strings.Contains("01 05 09 0d 11 12 15 19 1d", fmt.Sprintf("%02x", first%0x20))
}

// ofMemory are the instructions that read or write a place, but for those of the tables below.
var ofMemory = []row{
	// LDX and LDY
	{"a2 80", "", "X=80 P=80", 2}, {"a2 00", "P=df", "X=00 P=5f", 2}, {"a6 12", "12=44 P=82", "X=44 P=00", 4}, {"b6 f0", "Y=30 20=81", "X=81 P=80", 4}, {"ae 34 4a", "a34=07", "X=07", 5}, {"be ff ff", "Y=03 02=09", "X=09", 5},
	{"a0 00", "", "Y=00 P=02", 2}, {"a0 7f", "P=82", "Y=7f P=00", 2}, {"a4 ff", "ff=80", "Y=80 P=80", 4}, {"b4 ff", "X=01 00=33 P=03", "Y=33 P=01", 4}, {"ac ff 5f", "1fff=10", "Y=10", 5}, {"bc fe ff", "X=ff fd=66", "Y=66", 5},
	// STA, STX, STY and STZ
	{"85 12", "A=99 P=df", "12=99", 4}, {"95 f0", "X=11 A=77", "01=77", 4}, {"8d 34 4a", "", "a34=11", 5}, {"9d ff ff", "X=ff A=00", "fe=00", 5}, {"99 01 e0", "Y=ff A=ff", "100=ff", 5},
	{"81 ff", "X=ff fe=21 ff=41", "121=11", 7}, {"81 ff", "X=00 ff=21 00=41", "121=11", 7}, {"91 ff", "Y=ff ff=01 00=f0", "1100=11", 7}, {"91 10", "Y=02 10=ff 11=ff", "01=11", 7}, {"92 80", "80=ff 81=7f", "1fff=11", 7}, {"92 ff", "ff=03 00=e0", "03=11", 7},
	{"86 00", "X=00", "00=00", 4}, {"8e ff ff", "X=5a", "1fff=5a", 5}, {"96 ff", "Y=02 X=c3", "01=c3", 4},
	{"84 fe", "Y=c4", "fe=c4", 4}, {"8c 00 20", "Y=01", "00=01", 5}, {"94 80", "X=80 Y=0f", "00=0f", 4},
	{"64 07", "07=55", "07=00", 4}, {"74 f7", "X=0a 01=55", "01=00", 4}, {"9c 00 a0", "00=55", "00=00", 5}, {"9e ff ff", "X=01 00=55 P=c0", "00=00", 5},
	// BIT, CPX, CPY and TST
	{"24 12", "A=0f 12=c0", "P=c2", 4}, {"2c 34 4a", "A=80 a34=80 P=43", "P=81", 5}, {"34 ff", "X=01 A=01 00=41", "P=40", 4}, {"3c ff ff", "X=02 A=02 01=3f P=c2", "P=00", 5}, {"89 c0", "A=40", "P=c0", 2}, {"89 00", "A=ff P=c1", "P=03", 2},
	{"e0 22", "", "P=03", 2}, {"e0 23", "P=03", "P=80", 2}, {"e4 12", "X=10 12=20", "P=80", 4}, {"ec 34 4a", "X=80 a34=7f P=c2", "P=41", 5},
	{"c0 34", "", "P=80", 2}, {"c0 33", "", "P=03", 2}, {"c4 12", "12=33 P=40", "P=43", 4}, {"cc 34 4a", "Y=ff a34=00", "P=81", 5},
	{"83 0f 12", "12=f0", "P=c2", 7}, {"83 81 ff", "ff=81 P=42", "P=80", 7}, {"93 01 34 4a", "a34=41 P=82", "P=40", 8}, {"a3 10 ff", "X=03 02=10 P=c3", "P=01", 7}, {"b3 80 ff ff", "X=05 04=7f", "P=42", 8},
	// TSB and TRB
	{"04 12", "A=0f 12=c0", "12=cf P=c0", 6}, {"04 12", "A=00 12=00 P=c1", "12=00 P=03", 6}, {"0c 34 4a", "A=80 a34=01 P=42", "a34=81 P=00", 7},
	{"14 12", "A=0f 12=4f", "12=40 P=40", 6}, {"14 ff", "A=0f ff=0f P=c0", "ff=00 P=02", 6}, {"1c 34 4a", "A=ff a34=80", "a34=00 P=82", 7},
}

// ofFlow are branches, jumps, and what pushes and pulls.
var ofFlow = []row{
	{"10 10", "P=5f", "PC=4412", 4}, {"10 10", "P=80", "", 2}, {"30 80", "P=80", "PC=4382", 4}, {"30 80", "P=5f", "", 2},
	{"50 7f", "P=9f", "PC=4481", 4}, {"50 7f", "P=40", "", 2}, {"70 fe", "P=40", "PC=4400", 4}, {"70 fe", "P=9f", "", 2},
	{"90 00", "P=de", "PC=4402", 4}, {"90 00", "P=01", "", 2}, {"b0 05", "P=01", "PC=4407", 4}, {"b0 05", "P=de", "", 2},
	{"d0 ff", "P=dd", "PC=4401", 4}, {"d0 ff", "P=02", "", 2}, {"f0 fd", "P=02", "PC=43ff", 4}, {"f0 fd", "P=dd", "", 2},
	{"80 10", "", "PC=4412", 4}, {"80 80", "P=df", "PC=4382", 4}, {"80 00", "", "", 4},
	{"44 10", "S=ff", "S=fd PC=4412 1ff=44 1fe=01", 8}, {"44 fd", "S=00", "S=fe PC=43ff 100=44 1ff=01", 8}, {"44 00", "PC=fffe S=ff", "S=fd PC=0000 1ff=ff 1fe=ff", 8},
	{"4c 34 12", "", "PC=1234", 4}, {"6c ff 5f", "1fff=34 00=12", "PC=1234", 7}, {"6c ff ff", "1fff=78 00=56", "PC=5678", 7}, {"6c ff 20", "ff=44 100=66", "PC=6644", 7}, {"7c fe ff", "X=03 01=bc 02=9a", "PC=9abc", 7}, {"7c ff 1f", "X=00 1fff=bc 00=9a", "PC=9abc", 7},
	{"20 34 12", "S=01", "S=ff PC=1234 101=44 100=02", 7}, {"20 34 12", "S=00", "S=fe PC=1234 100=44 1ff=02", 7}, {"20 34 12", "PC=fffd S=ff", "S=fd PC=1234 1ff=ff 1fe=ff", 7},
	{"60", "S=fd 1fe=33 1ff=12", "S=ff PC=1234", 7}, {"60", "S=fe 1ff=ff 100=ff", "S=00 PC=0000", 7}, {"60", "S=ff 100=ff 101=12", "S=01 PC=1300", 7},
	{"40", "S=fc 1fd=ff 1fe=34 1ff=12", "S=ff P=ff PC=1234", 7}, {"40", "P=df S=ff 100=20 101=ff 102=ff", "S=02 P=20 PC=ffff", 7}, {"40", "P=ff S=fe 1ff=00 100=00 101=80", "S=01 P=00 PC=8000", 7},
	{"00", "S=ff P=cb 1ff6=02 1ff7=61", "S=fc P=c7 PC=6102 1ff=44 1fe=02 1fd=db", 8}, {"00", "S=01 P=ff 1ff6=02 1ff7=61", "S=fe P=d7 PC=6102 101=44 100=02 1ff=df", 8}, {"00", "S=ff PC=fffe 1ff6=02 1ff7=61", "S=fc P=04 PC=6102 1ff=00 1fe=00 1fd=10", 8},
	{"48", "S=ff", "S=fe 1ff=11", 3}, {"da", "S=00", "S=ff 100=22", 3}, {"5a", "P=c3", "S=fc 1fd=33", 3}, {"08", "P=00 S=80", "S=7f 180=10", 3}, {"08", "P=df", "S=fc 1fd=df", 3},
	{"68", "S=fe 1ff=80", "S=ff A=80 P=80", 4}, {"68", "S=ff 100=00 P=81", "S=00 A=00 P=03", 4}, {"fa", "S=0f 110=7f P=82", "S=10 X=7f P=00", 4}, {"fa", "S=ff 100=00", "S=00 X=00 P=02", 4}, {"7a", "S=fe 1ff=ff", "S=ff Y=ff P=80", 4}, {"7a", "1fe=00", "S=fe Y=00 P=02", 4},
	{"28", "S=fe 1ff=ff", "S=ff P=ff", 4}, {"28", "S=ff P=df 100=00", "S=00 P=00", 4}, {"28", "1fe=20", "S=fe P=20", 4},
}

// ofRegisters are the instructions that touch no memory.
var ofRegisters = []row{
	{"e8", "X=ff", "X=00 P=02", 2}, {"e8", "X=7f P=03", "X=80 P=81", 2}, {"c8", "Y=ff P=80", "Y=00 P=02", 2}, {"c8", "", "Y=34", 2}, {"ca", "X=00", "X=ff P=80", 2}, {"ca", "X=01 P=80", "X=00 P=02", 2}, {"88", "Y=00 P=01", "Y=ff P=81", 2}, {"88", "P=82", "Y=32 P=00", 2},
	{"aa", "A=00 P=81", "X=00 P=03", 2}, {"aa", "", "X=11", 2}, {"a8", "A=80", "Y=80 P=80", 2}, {"8a", "X=7f P=82", "A=7f P=00", 2}, {"98", "Y=00", "A=00 P=02", 2}, {"ba", "S=80", "X=80 P=80", 2}, {"ba", "S=00 P=80", "X=00 P=02", 2},
	{"9a", "X=00 P=81", "S=00", 2}, {"9a", "X=80", "S=80", 2}, {"9a", "P=c2", "S=22", 2},
	{"02", "X=00 Y=80 P=41", "X=80 Y=00", 3}, {"22", "A=00 X=80", "A=80 X=00", 3}, {"22", "P=82", "A=22 X=11", 3}, {"42", "A=80 Y=00 P=80", "A=00 Y=80", 3}, {"62", "P=80", "A=00", 2}, {"82", "", "X=00", 2}, {"c2", "P=df", "Y=00", 2},
	{"18", "P=df", "P=de", 2}, {"18", "", "", 2}, {"d8", "P=df", "P=d7", 2}, {"58", "P=df", "P=db", 2}, {"b8", "P=df", "P=9f", 2},
	{"38", "", "P=01", 2}, {"38", "P=df", "", 2}, {"f8", "", "P=08", 2}, {"78", "", "P=04", 2}, {"f4", "", "P=20", 2}, {"f4", "P=20", "P=20", 2}, {"f4", "P=df", "P=ff", 2},
	{"54", "F=1", "F=0", 3}, {"54", "", "", 3}, {"d4", "", "F=1", 3}, {"d4", "F=1", "", 3}, {"ea", "F=1 P=df", "", 2},
	{"53 00", "A=99", "", 5}, {"53 01", "A=99", "M0=99 L=99", 5}, {"53 02", "A=00", "M1=00 L=00", 5}, {"53 80", "A=ff P=c3", "M7=ff L=ff", 5}, {"53 a4", "A=ff", "M2=ff M5=ff M7=ff L=ff", 5}, {"53 ff", "A=00", "M0=0 M1=0 M2=0 M3=0 M4=0 M5=0 M6=0 M7=0 L=00", 5}, {"53 00", "L=1ff", "", 5},
	{"43 00", "", "A=5a", 4}, {"43 00", "L=1ff", "A=ff L=ff", 4}, {"43 00", "L=00 P=80", "A=00", 4}, {"43 08", "M3=12", "A=12 L=12", 4}, {"43 28", "M3=34 M5=56", "A=34 L=34", 4}, {"43 ff", "M0=01", "A=01 L=01", 4}, {"43 80", "M7=00", "A=00 L=00", 4}, {"43 40", "M6=180", "A=80 L=80", 4},
	{"73 00 4a 00 4b 03 00", "a00=01 a01=02 a02=03", "b00=01 b01=02 b02=03", 35}, {"73 00 4a 01 4a 04 00", "a00=09", "a01=09 a02=09 a03=09 a04=09", 41}, {"73 00 4a 00 4b 01 00", "a00=01 P=df", "b00=01", 23},
	{"c3 02 4a 02 4b 03 00", "a00=01 a01=02 a02=03", "b00=01 b01=02 b02=03", 35}, {"c3 01 4a 02 4a 03 00", "a01=01 a00=02 9ff=03", "a02=01 a01=02 a00=03", 35}, {"c3 00 4a 00 4b 01 00", "a00=01", "b00=01", 23},
	{"d3 00 4a 00 4b 03 00", "a00=01 a01=02 a02=03", "b00=03", 35}, {"d3 00 4a 00 4b 01 00", "a00=01", "b00=01", 23},
	{"e3 00 4a 00 4b 03 00", "a00=01 a01=02 a02=03", "b00=03 b01=02", 35}, {"e3 00 4a 00 4b 01 00", "a00=01", "b00=01", 23}, {"e3 00 4a 00 4b 02 00", "a00=01 a01=02", "b00=01 b01=02", 29},
	{"f3 00 4a 00 4b 03 00", "a00=01 a01=02", "b00=01 b01=02 b02=01", 35}, {"f3 00 4a 00 4b 01 00", "a00=01", "b00=01", 23}, {"f3 00 4a ff 4b 02 00", "a00=01 a01=02", "bff=01 c00=02", 29},
}

// sum is what the alu makes of A, m and flags.
type sum struct{ base, a, m, p, r, behind int }

// sums are of the instructions that have all nine modes, by the first of their bytes less the mode's.
var sums = []sum{
	{0x00, 0x50, 0x8a, 0x00, 0xda, 0x80}, {0x00, 0x00, 0x00, 0xc1, 0x00, 0x43}, {0x00, 0x0f, 0x10, 0x82, 0x1f, 0x00}, // ORA
	{0x20, 0x5a, 0x0f, 0x82, 0x0a, 0x00}, {0x20, 0xf0, 0x0f, 0x01, 0x00, 0x03}, {0x20, 0xf0, 0x8f, 0x00, 0x80, 0x80}, // AND
	{0x40, 0xff, 0x0f, 0x02, 0xf0, 0x80}, {0x40, 0x5a, 0x5a, 0x40, 0x00, 0x42}, {0x40, 0x5a, 0x01, 0xdf, 0x5b, 0x5d}, // EOR
	{0x60, 0x7f, 0x01, 0x00, 0x80, 0xc0}, {0x60, 0xff, 0x01, 0x00, 0x00, 0x03}, {0x60, 0xff, 0xff, 0x01, 0xff, 0x81}, {0x60, 0x80, 0x80, 0x00, 0x00, 0x43}, {0x60, 0x10, 0x20, 0xc3, 0x31, 0x00}, // ADC
	{0x60, 0x58, 0x46, 0x09, 0x05, 0x09}, {0x60, 0x99, 0x01, 0x08, 0x00, 0x0b}, {0x60, 0x45, 0x45, 0x08, 0x90, 0x88}, {0x60, 0x09, 0x09, 0x09, 0x19, 0x08}, // ADC, decimal
	{0xa0, 0x11, 0x80, 0x00, 0x80, 0x80}, {0xa0, 0x11, 0x00, 0x81, 0x00, 0x03}, {0xa0, 0x11, 0x7f, 0xdf, 0x7f, 0x5d}, // LDA
	{0xc0, 0x40, 0x41, 0x01, 0x40, 0x80}, {0xc0, 0x41, 0x41, 0x80, 0x41, 0x03}, {0xc0, 0x41, 0x40, 0x42, 0x41, 0x41}, {0xc0, 0xff, 0x01, 0x08, 0xff, 0x89}, // CMP
	{0xe0, 0x50, 0x10, 0x01, 0x40, 0x01}, {0xe0, 0x00, 0x01, 0x01, 0xff, 0x80}, {0xe0, 0x80, 0x01, 0x01, 0x7f, 0x41}, {0xe0, 0x10, 0x0f, 0x40, 0x00, 0x03}, // SBC
	{0xe0, 0x46, 0x12, 0x09, 0x34, 0x09}, {0xe0, 0x00, 0x01, 0x09, 0x99, 0x88}, {0xe0, 0x50, 0x01, 0x08, 0x48, 0x09}, {0xe0, 0x10, 0x10, 0x49, 0x00, 0x4b}, // SBC, decimal
}

// shifts are of the instructions that change a byte: of memory, or A.
var shifts = []sum{
	{0x00, 0x0a, 0x81, 0x00, 0x02, 0x01}, {0x00, 0x0a, 0x40, 0x03, 0x80, 0x80}, {0x00, 0x0a, 0x80, 0x81, 0x00, 0x03}, // ASL: a is here the byte of the one that changes A
	{0x20, 0x2a, 0x80, 0x01, 0x01, 0x01}, {0x20, 0x2a, 0x40, 0x00, 0x80, 0x80}, {0x20, 0x2a, 0x80, 0x00, 0x00, 0x03}, // ROL
	{0x40, 0x4a, 0x01, 0x80, 0x00, 0x03}, {0x40, 0x4a, 0x81, 0x00, 0x40, 0x01}, {0x40, 0x4a, 0xfe, 0x01, 0x7f, 0x00}, // LSR
	{0x60, 0x6a, 0x01, 0x01, 0x80, 0x81}, {0x60, 0x6a, 0x02, 0x00, 0x01, 0x00}, {0x60, 0x6a, 0x01, 0x00, 0x00, 0x03}, // ROR
	{0xc0, 0x3a, 0x00, 0x00, 0xff, 0x80}, {0xc0, 0x3a, 0x01, 0x01, 0x00, 0x03}, {0xc0, 0x3a, 0x80, 0x80, 0x7f, 0x00}, // DEC
	{0xe0, 0x1a, 0xff, 0x01, 0x00, 0x03}, {0xe0, 0x1a, 0x7f, 0x00, 0x80, 0x80}, {0xe0, 0x1a, 0x10, 0xc2, 0x11, 0x40}, // INC
}

// way is how one mode comes to m: what is added to the first byte, the bytes behind it, what is named for it, where m stands then, and the cycles of instructions that read it alone.
type way struct {
	low        int
	tail       string
	before, at string
	cycles     int
}

// ways are all modes that those of sums have, at ordinary places and where a register or a pointer goes round; an immediate m is its own tail.
var ways = []way{
	{0x09, "", "", "", 2},
	{0x05, "12", "", "12", 4}, {0x05, "ff", "", "ff", 4},
	{0x15, "10", "X=05", "15", 4}, {0x15, "f0", "X=20", "10", 4}, {0x15, "ff", "X=ff", "fe", 4},
	{0x0d, "34 4a", "", "a34", 5}, {0x0d, "ff ff", "", "1fff", 5},
	{0x1d, "34 4a", "X=ff", "b33", 5}, {0x1d, "ff ff", "X=02", "01", 5},
	{0x19, "34 4a", "Y=01", "a35", 5}, {0x19, "ff ff", "Y=ff", "fe", 5},
	{0x01, "10", "X=02 12=34 13=4a", "a34", 7}, {0x01, "fe", "X=01 ff=34 00=4a", "a34", 7}, {0x01, "fd", "X=82 7f=ff 80=ff", "1fff", 7},
	{0x11, "10", "Y=03 10=34 11=4a", "a37", 7}, {0x11, "ff", "Y=ff ff=02 00=45", "601", 7}, {0x11, "10", "Y=04 10=ff 11=ff", "03", 7},
	{0x12, "10", "10=34 11=4a", "a34", 7}, {0x12, "ff", "ff=34 00=4a", "a34", 7},
}

// name is an instruction of a way, with m at its place: its bytes, and what must be named before it.
func (w way) name(first, m int) (code, before string) {
	if w.at == "" {
		return fmt.Sprintf("%02x %02x", first, m), w.before
	}
	return fmt.Sprintf("%02x %s", first, w.tail), fmt.Sprintf("%s %s=%x", w.before, w.at, m)
}

// x tells the register X of a way, and so the byte of memory that T puts in the place of A; one that is far from all else, where the way names none.
func (w way) x() string {
	if _, x, named := strings.Cut(w.before, "X="); named {
		return x[:2]
	}
	return "c7"
}

// sumRows are all sums by all ways: of A, and, where T changes something, of memory in its place, which takes three cycles more.
func sumRows() []row {
	var rows []row
	for _, s := range sums {
		for _, w := range ways {
			code, before := w.name(s.base+w.low, s.m)
			rows = append(rows, row{code, fmt.Sprintf("%s A=%x P=%x", before, s.a, s.p), fmt.Sprintf("A=%x P=%x", s.r, s.behind), w.cycles})
			if s.base < 0x80 {
				x := w.x()
				rows = append(rows, row{code, fmt.Sprintf("%s X=%s %s=%x P=%x", before, x, x, s.a, s.p+0x20), fmt.Sprintf("%s=%x P=%x", x, s.r, s.behind), w.cycles + 3})
			}
		}
	}
	return rows
}

// shiftRows are all shifts by their five modes.
func shiftRows() []row {
	var rows []row
	for _, s := range shifts {
		rows = append(rows, row{fmt.Sprintf("%02x", s.a), fmt.Sprintf("A=%x P=%x", s.m, s.p), fmt.Sprintf("A=%x P=%x", s.r, s.behind), 2})
		for _, w := range ways {
			if w.low&0xf == 0x05 || w.low&0xf == 0x0d {
				code, before := w.name(s.base+w.low+1, s.m)
				rows = append(rows, row{code, fmt.Sprintf("%s P=%x", before, s.p), fmt.Sprintf("%s=%x P=%x", w.at, s.r, s.behind), w.cycles + 2})
			}
		}
	}
	return rows
}

// bitRows are RMBk, SMBk, BBRk and BBSk, of each k, with the bit set and clear, and the others the other way round.
func bitRows() []row {
	var rows []row
	for k := range 8 {
		one := 1 << k
		for _, m := range []int{0, one, 255 - one, 255} {
			on := m&one != 0
			rows = append(rows, row{fmt.Sprintf("%x7 34", k), fmt.Sprintf("34=%x P=df", m), fmt.Sprintf("34=%x", m&^one), 7})
			rows = append(rows, row{fmt.Sprintf("%x7 34", k+8), fmt.Sprintf("34=%x", m), fmt.Sprintf("34=%x", m|one), 7})
			clear, set := row{fmt.Sprintf("%xf 34 10", k), fmt.Sprintf("34=%x", m), "", 6}, row{fmt.Sprintf("%xf 34 80", k+8), fmt.Sprintf("34=%x P=df", m), "", 6}
			if on {
				set.after, set.cycles = "PC=4383", 8
			} else {
				clear.after, clear.cycles = "PC=4413", 8
			}
			rows = append(rows, clear, set)
		}
	}
	return rows
}

// noneRows are the bytes that have no instruction of their own.
func noneRows() []row {
	var rows []row
	for _, code := range strings.Fields("0b 1b 2b 33 3b 4b 5b 5c 63 6b 7b 8b 9b ab bb cb db dc e2 eb fb fc") {
		rows = append(rows, row{code, "", "", 2}, row{code, "A=00 X=ff S=00 P=df F=1 L=00", "", 2})
	}
	return rows
}

// videoRows are ST0, ST1 and ST2, of which TestVideo tells more: at the ports that they write to, nothing of what rows name is another.
func videoRows() []row {
	return []row{{"03 04", "", "", 4}, {"13 00", "P=df", "", 4}, {"23 00", "", "", 4}}
}

func allRows() []row {
	rows := append([]row{}, ofMemory...)
	for _, more := range [][]row{ofFlow, ofRegisters, sumRows(), shiftRows(), bitRows(), noneRows(), videoRows()} {
		rows = append(rows, more...)
	}
	return rows
}

// holdRows holds each row against a step of a processor that a test changes ahead of it; what is behind the step must be as the row says, whatever was changed.
func holdRows(t *testing.T, rows []row, changed func(c Core) Core) {
	t.Helper()
	base := machine(t, 1)
	b, want := twin(base), twin(base)
	for _, r := range rows {
		mirror(b, base)
		before := begin()
		apply(t, r.before, &before, b)
		bytes := strings.Fields(r.code)
		for k, text := range bytes {
			place(b, before.R.PC+k, hex(t, text))
		}
		mirror(want, b)
		after := before
		after.R.PC = modulo(before.R.PC+len(bytes), 65536)
		if after.R.P &= 0xdf; r.after != "" {
			apply(t, r.after, &after, want)
		}
		got, cycles := Step(changed(before), b)
		if got != after || cycles != r.cycles {
			t.Errorf("%v: %s, %d, want %s", r, show(got), cycles, show(after))
		}
		expect(t, b, want, r.code+", "+r.before)
	}
}

// TestRows: P25.3, each of the 256 instructions: registers, flags, memory, PC and cycles behind it, and nothing else changed.
func TestRows(t *testing.T) {
	rows := allRows()
	holdRows(t, rows, func(c Core) Core { return c })
	var seen [256]bool
	for _, r := range rows {
		seen[r.first(t)] = true
	}
	for first, ok := range seen {
		if !ok {
			t.Errorf("no row of %02x", first)
		}
	}
}

// TestT: P25.3, T before an instruction that does not reckon with A changes nothing but that it is gone behind it (unless it comes with what is set or pulled).
func TestT(t *testing.T) {
	var rows []row
	for _, r := range allRows() {
		if !r.gathers(t) {
			rows = append(rows, r)
		}
	}
	holdRows(t, rows, func(c Core) Core {
		c.R.P |= api.FlagT
		return c
	})
}

// TestFast: P25.3, the speed changes nothing but itself.
func TestFast(t *testing.T) {
	var rows []row
	for _, r := range allRows() {
		if first := r.first(t); first != 0x54 && first != 0xd4 {
			r.before, r.after = r.before+" F=1", r.after+" F=1"
			rows = append(rows, r)
		}
	}
	holdRows(t, rows, func(c Core) Core { return c })
}

// TestBeyond: P25.3, registers are taken modulo 256, PC modulo 65536, and told so.
func TestBeyond(t *testing.T) {
	for _, rounds := range []int{1, -1, 2, -300, 1 << 30, math.MaxInt / 65536, math.MinInt / 65536} {
		holdRows(t, allRows(), func(c Core) Core {
			far := rounds * 256
			c.R.A, c.R.X, c.R.Y, c.R.S, c.R.P = c.R.A+far, c.R.X+far, c.R.Y+far, c.R.S+far, c.R.P+far
			c.R.PC += rounds * 65536
			return c
		})
	}
}

// TestEnds: P25.3, both ends of Go's int in each register.
func TestEnds(t *testing.T) {
	b := machine(t, 1)
	least := Core{R: api.Registers{A: math.MinInt, X: math.MinInt, Y: math.MinInt, S: math.MinInt, P: math.MinInt, PC: math.MinInt}, Last: math.MinInt}
	place(b, 0, 0xea)
	if c, n := Step(least, b); c != (Core{R: api.Registers{PC: 1}, Last: math.MinInt}) || n != 2 {
		t.Errorf("the least: %s, %d", show(c), n)
	}
	most := Core{R: api.Registers{A: math.MaxInt, X: math.MaxInt, Y: math.MaxInt, S: math.MaxInt, P: math.MaxInt, PC: math.MaxInt}, Last: math.MaxInt}
	place(b, 0xffff, 0x43, 0x00) // TMA of no register: Last
	if c, n := Step(most, b); c != (Core{R: api.Registers{A: 255, X: 255, Y: 255, S: 255, P: 0xdf, PC: 1}, Last: 255}) || n != 4 {
		t.Errorf("the most: %s, %d", show(c), n)
	}
}

// TestBranches: P25.3, each branch, each way and each distance, from both ends of a page and of 65536.
func TestBranches(t *testing.T) {
	b := machine(t, 1)
	flags := []int{api.FlagN, api.FlagV, api.FlagC, api.FlagZ}
	for _, pc := range []int{0, 1, 0xfc, 0xfd, 0xfe, 0xff, 0x100, 0x1ffd, 0x1ffe, 0x1fff, 0x2000, 0x44fe, 0x7fff, 0x8000, 0xff7e, 0xff7f, 0xff80, 0xfffd, 0xfffe, 0xffff} {
		for far := range 256 {
			to := pc + 2 + far - far/128*256
			for k, flag := range flags {
				for _, asked := range []bool{false, true} {
					first := 0x10 + 0x40*k
					if asked {
						first += 0x20
					}
					place(b, pc, first, far)
					for _, p := range []int{0, flag, 0xdf, 0xdf - flag} {
						c := begin()
						c.R.PC, c.R.P = pc, p
						want, cycles := c, 2
						want.R.PC = modulo(pc+2, 65536)
						if (p&flag != 0) == asked {
							want.R.PC, cycles = modulo(to, 65536), 4
						}
						if got, n := Step(c, b); got != want || n != cycles {
							t.Fatalf("%x at %x by %x, P %x: %s, %d, want %s, %d", first, pc, far, p, show(got), n, show(want), cycles)
						}
					}
				}
			}
			place(b, pc, 0x80, far)
			c := begin()
			c.R.PC = pc
			if got, n := Step(c, b); got.R.PC != modulo(to, 65536) || n != 4 {
				t.Fatalf("BRA at %x by %x: %x, %d", pc, far, got.R.PC, n)
			}
		}
	}
}

// TestBitBranches: P25.3, BBRk and BBSk by each distance, from both ends of a page and of 65536.
func TestBitBranches(t *testing.T) {
	b := machine(t, 1)
	for _, pc := range []int{0xfffc, 0xfffd, 0xfffe, 0xffff, 0x100, 0x44fd, 0x1fff, 0x3fff} {
		for far := range 256 {
			for k := range 8 {
				place(b, pc, 0x0f+0x10*k, 0x60, far)
				b.Ram[0x60] = byte(255 - 1<<k)
				c := begin()
				c.R.PC = pc
				want := modulo(pc+3+far-far/128*256, 65536)
				if got, n := Step(c, b); got.R.PC != want || n != 8 {
					t.Fatalf("BBR%d at %x by %x: %x, %d", k, pc, far, got.R.PC, n)
				}
				place(b, pc, 0x8f+0x10*k)
				if got, n := Step(c, b); got.R.PC != modulo(pc+3, 65536) || n != 6 {
					t.Fatalf("BBS%d at %x by %x: %x, %d", k, pc, far, got.R.PC, n)
				}
			}
		}
	}
}

// TestExample: the chapter's example.
func TestExample(t *testing.T) {
	b := machine(t, 1)
	place(b, codeAt, 0xa9, 0x05)
	if c, n := Step(begin(), b); c.R.A != 5 || n != 2 {
		t.Errorf("A is %d, %d cycles", c.R.A, n)
	}
}
