package cpu

import (
	"math"
	"testing"

	"phosphor/api"
	"phosphor/bus"
	"phosphor/mpr"
	"phosphor/psg"
	"phosphor/timer"
	"phosphor/vce"
)

// TestSlow: P25.3, each slow place that is read or written takes a cycle more: of m, of pointers, of the stack, and of A's place with T. The status, 9, is read at 0 of the picture's ports, and is 0 then.
func TestSlow(t *testing.T) {
	rows := []row{
		{"ad 00 00", "M0=ff", "A=09", 6}, {"ad ff 03", "M0=ff", "A=cc P=80", 6}, {"ad 00 04", "M0=ff", "A=ff P=80", 6}, {"ad ff 07", "M0=ff", "A=ff P=80", 6},
		{"ad 00 08", "M0=ff", "A=a5 P=80", 5}, {"ad 00 1c", "M0=ff", "A=ff P=80", 5}, {"ad ff 1f", "M0=ff", "A=ff P=80", 5},
		{"ad 00 00", "M0=100fe", "A=ff P=80", 5}, {"ad 00 00", "M0=1ff", "A=09", 6}, {"ad ff e3", "M7=ff", "A=cc P=80", 6},
		{"bd ff ff", "X=01 M0=ff", "A=09", 6}, {"b9 ff ff", "Y=05 M0=ff", "A=09", 6}, {"ae 04 00", "M0=ff", "X=09", 6}, {"be 00 00", "Y=08 M0=ff", "X=09", 6}, {"ac 00 00", "M0=ff", "Y=09", 6},
		{"8d 00 00", "M0=ff A=04", "", 6}, {"8e 01 00", "M0=ff", "", 6}, {"8c 01 04", "M0=ff", "", 6}, {"9c 01 00", "M0=ff", "", 6}, {"9d 00 00", "X=01 M0=ff", "", 6},
		{"0d 00 00", "M0=ff", "A=19", 6}, {"ed 00 00", "M0=ff P=01", "A=08 P=01", 6}, {"cd 00 00", "M0=ff", "P=01", 6}, {"2c 00 00", "M0=ff", "", 6}, {"ec 00 00", "M0=ff", "P=01", 6},
		{"ee 01 00", "M0=ff", "", 9}, {"ce 01 00", "M0=ff", "P=80", 9}, {"0e 01 00", "M0=ff P=01", "P=02", 9}, {"0c 01 00", "M0=ff A=00", "P=02", 9}, {"1c 01 00", "M0=ff", "P=02", 9}, {"93 09 00 00", "M0=ff", "", 9},
		{"a5 00", "M1=ff", "A=09", 5}, {"b5 fe", "M1=ff X=02", "A=09", 5}, {"64 01", "M1=ff", "", 5}, {"83 06 00", "M1=ff", "P=02", 8}, {"07 01", "M1=ff", "", 9}, {"87 01", "M1=ff", "", 9},
		{"0f 00 10", "M1=ff", "", 7}, {"1f 00 10", "M1=ff", "PC=4413", 9}, {"8f 00 10", "M1=ff", "PC=4413", 9},
		{"a1 00", "M1=ff X=00 09=77", "A=77", 9}, {"b1 00", "M1=ff Y=01 0a=77", "A=77", 9}, {"b2 00", "M1=ff 09=77", "A=77", 9}, {"92 00", "M1=ff", "09=11", 9}, {"b2 10", "M0=ff 10=01 11=00", "A=00 P=02", 8}, {"b2 00", "M1=ff M0=ff", "A=00 P=02", 10},
		{"6c 00 00", "M0=ff", "PC=0009", 9}, {"7c fe ff", "X=02 M0=ff", "PC=0009", 9}, {"4c 00 00", "M0=ff", "PC=0000", 4},
		{"48", "M1=ff S=01", "S=00", 4}, {"68", "M1=ff S=ff", "A=09 S=00", 5}, {"28", "M1=ff S=ff", "P=09 S=00", 5}, {"20 34 12", "M1=ff S=05", "S=03 PC=1234", 9}, {"44 00", "M1=ff S=05", "S=03", 10},
		{"60", "M1=ff S=ff", "S=01 PC=000a", 9}, {"40", "M1=ff S=ff", "S=02 P=09 PC=cc00", 10}, {"00", "M1=ff S=03 1ff6=02 1ff7=61", "S=00 P=04 PC=6102", 11},
		{"09 40", "M1=ff X=01 P=20", "P=00", 7}, {"0d 04 00", "M0=ff X=40 40=10 P=20", "40=19 P=00", 9}, {"6d 00 00", "M0=ff M1=ff X=01 P=20", "P=00", 11},
		{"73 00 00 00 4a 02 00", "M0=ff", "a00=09 a01=00", 31}, {"d3 00 4a 01 00 05 00", "M0=ff", "", 52}, {"f3 00 00 00 4a 02 00", "M0=ff", "a00=09 a01=00", 31}, {"e3 00 4a fd 07 03 00", "M0=ff", "", 38},
	}
	for _, r := range rows {
		b, c := machine(t, 1), begin()
		b.Vram.Poke(0x7fff, 0xcccc)
		b.Vram.SetRead(0x7fff)
		apply(t, r.before, &c, b)
		code := bytesOf(t, r.code)
		place(b, codeAt, code...)
		after, ram := c, twin(b)
		after.R.PC += len(code)
		after.R.P &= 0xdf
		apply(t, r.after, &after, ram)
		got, cycles := Step(c, b)
		if got != after || cycles != r.cycles || b.Ram != ram.Ram {
			t.Errorf("%v: %s, %d, want %s", r, show(got), cycles, show(after))
		}
	}
}

func bytesOf(t testing.TB, code string) []int {
	var bytes []int
	for k := 0; k < len(code); k += 3 {
		bytes = append(bytes, hex(t, code[k:k+2]))
	}
	return bytes
}

// TestNotRead: P25.3 and P25.4, what only writes a place, or goes to one, does not read it: the status stays.
func TestNotRead(t *testing.T) {
	for _, code := range []string{"8d 00 00", "8e 00 00", "8c 00 00", "9c 00 00", "9d 00 00", "99 00 00", "9e 00 00", "4c 00 00", "20 00 00", "c9 00", "89 00", "0a", "ea"} {
		b, c := machine(t, 1), begin()
		b.File[0], c.R.X, c.R.Y = 0xff, 0, 0
		place(b, codeAt, bytesOf(t, code)...)
		if Step(c, b); b.Status != 9 {
			t.Errorf("%s: the status is read", code)
		}
	}
	for _, code := range []string{"ad 00 00", "ee 00 00", "cd 00 00", "93 00 00 00", "0c 00 00", "6c 00 00"} {
		b, c := machine(t, 1), begin()
		b.File[0] = 0xff
		place(b, codeAt, bytesOf(t, code)...)
		if Step(c, b); b.Status != 0 {
			t.Errorf("%s: the status is not read", code)
		}
	}
}

// TestOnce: P25.3, what changes a byte reads it once, and writes it once: of two reads at a port that goes on, the second one would tell another byte.
func TestOnce(t *testing.T) {
	b, c := machine(t, 1), begin()
	b.File[0] = 0xff
	b.Vce = vce.Vce{Addr: 7}
	for k := range b.Vce.Table {
		b.Vce.Table[k] = k % 2 * 256
	}
	place(b, codeAt, 0xad, 0x05, 0x04, 0xee, 0x05, 0x04) // LDA and INC of the colours' high byte
	c, _ = Step(c, b)
	if c.R.A != 0xff || b.Vce.Addr != 8 {
		t.Errorf("LDA: %x, %d", c.R.A, b.Vce.Addr)
	}
	c, n := Step(c, b)
	if b.Vce.Addr != 10 || b.Vce.Table[9] != 256 || n != 9 || c.R.P != api.FlagN {
		t.Errorf("INC: %d, %x, %d cycles", b.Vce.Addr, b.Vce.Table[9], n)
	}
}

// TestSlowCode: P25.3, the bytes of an instruction may stand at slow places too; each of them takes a cycle more.
func TestSlowCode(t *testing.T) {
	rows := []struct {
		pc, word, cycles int
		after            api.Registers
	}{
		{0x4002, 0x05a9, 4, api.Registers{A: 5, X: 0x22, Y: 0x33, S: 0xfd, PC: 0x4004}},
		{0x43fe, 0x05a2, 4, api.Registers{A: 0x11, X: 5, Y: 0x33, S: 0xfd, PC: 0x4400}},
		{0x4003, 0xea00, 3, api.Registers{A: 0x11, X: 0x22, Y: 0x33, S: 0xfd, PC: 0x4004}},
		{0x3fff, 0x0000, 3, api.Registers{A: 0x11, X: 0x22, Y: 0x33, S: 0xfd, P: 2, PC: 0x4001}}, // its second byte alone is a port: BIT of the status
	}
	for _, r := range rows {
		b, c := machine(t, 1), begin()
		b.File[2] = 0xff
		b.Vram.Poke(100, r.word)
		b.Vram.SetRead(100)
		b.Ram[0x1fff], b.Ram[9], b.Status = 0x89, 0, 2
		c.R.PC = r.pc
		if got, n := Step(c, b); got.R != r.after || n != r.cycles {
			t.Errorf("at %x: %s, %d", r.pc, show(got), n)
		}
	}
}

// TestCard: P25.3, instructions of the card; a write to it changes nothing but the latch.
func TestCard(t *testing.T) {
	b := machine(t, 320)
	b.File = mpr.File{0, 0xf8, 1, 64, 64, 64, 64, 64}
	b.Latch = 0
	want, c := twin(b), begin()
	place(b, 0, 0x8d, 0xf3, 0x7f) // STA 7ff3
	place(want, 0, 0x8d, 0xf3, 0x7f)
	want.Latch = 3
	c.R.PC = 0x2000
	if c, n := Step(c, b); c.R.PC != 0x2003 || n != 5 {
		t.Errorf("%s, %d", show(c), n)
	}
	expect(t, b, want, "a write to the card")
	pages := image(320)
	for _, at := range []int{0x6000, 0x7fff} {
		place(b, 3, 0xad, at%256, at/256)
		c.R.PC = 0x2003
		if got, _ := Step(c, b); got.R.A != int(pages[256*8192+at-0x6000]) {
			t.Errorf("at %x of the card: %x", at, got.R.A)
		}
	}
}

// TestHeld: P25.3, a byte that is read is one, also where what the machine holds was set to what is none.
func TestHeld(t *testing.T) {
	for _, hold := range []int{1000, -1, 256, math.MaxInt, math.MinInt, 0x180, 0x2ea} {
		n := modulo(hold, 256)
		rows := []struct {
			code string
			told func(c Core, b *bus.Bus) int
		}{
			{"ad 00 08", func(c Core, b *bus.Bus) int { return c.R.A }},
			{"ae 00 08", func(c Core, b *bus.Bus) int { return c.R.X }},
			{"ac 00 08", func(c Core, b *bus.Bus) int { return c.R.Y }},
			{"4d 00 08", func(c Core, b *bus.Bus) int { return c.R.A ^ 0x11 }},
			{"6c 00 08", func(c Core, b *bus.Bus) int { return c.R.PC - 256*n }},
			{"73 00 08 00 4a 01 00", func(c Core, b *bus.Bus) int { return int(b.Ram[0xa00]) }},
		}
		for _, r := range rows {
			b := machine(t, 1)
			b.File[0], b.Hold = 0xff, hold
			place(b, codeAt, bytesOf(t, r.code)...)
			if c, _ := Step(begin(), b); r.told(c, b) != n {
				t.Errorf("%s, where %d is held: %s", r.code, hold, show(c))
			}
		}
	}
}

// TestVideo: P25.3, ST0, ST1 and ST2 write to the picture's ports whatever the file is, in four cycles.
func TestVideo(t *testing.T) {
	files := []mpr.File{ramOnly, {}, {0xff, 0xff, 0xf8, 0xff, 0xff, 0xff, 0xff, 0xff}, {-1, 300, 0xf8, math.MaxInt, math.MinInt, 7, 0x80, 0xfe}}
	for _, file := range files {
		b := machine(t, 1)
		b.File = file
		b.File[2] = 0xf8
		want, c := twin(b), begin()
		code := []int{0x03, 0x00, 0x13, 0x34, 0x23, 0x12, 0x03, 0x02, 0x13, 0x78, 0x23, 0x56, 0x03, 0xff}
		place(b, codeAt, code...)
		place(want, codeAt, code...)
		for k := 0; k < len(code); k += 2 {
			c.R.P = 0xff
			n := 0
			c, n = Step(c, b)
			want.Write([]int{0x1fe000, 0x1fe002, 0x1fe003}[code[k]/16], code[k+1])
			if after := (api.Registers{A: 0x11, X: 0x22, Y: 0x33, S: 0xfd, P: 0xdf, PC: codeAt + k + 2}); c.R != after || n != 4 {
				t.Errorf("%02x: %s, %d", code[k], show(c), n)
			}
			expect(t, b, want, "ST0, ST1 or ST2")
		}
		expectWords(t, b, want, "ST0, ST1 and ST2")
		if b.Vram.Word(0x1234) != 0x5678 || b.Regs.Sel != 31 || b.Regs.R[0] != 0x1234 {
			t.Errorf("the word is %x, the register chosen %d", b.Vram.Word(0x1234), b.Regs.Sel)
		}
	}
}

// TestMapping: P25.3, TAM and TMA of each mask, one behind the other, with the file and Last held.
func TestMapping(t *testing.T) {
	b := machine(t, 1)
	for mask := range 256 {
		for _, a := range []int{0, 0x44, 0xff} {
			for _, last := range []int{0x5a, 300, -1} {
				b.File = mpr.File{10, 11, 0xf8, 13, 14, 15, 16, 300}
				place(b, codeAt, 0x53, mask)
				want, c := b.File, begin()
				c.R.A, c.R.P, c.Last = a, 0xdf, last
				after := c
				after.R.PC += 2
				for k := range 8 {
					if mask>>k%2 == 1 {
						want[k], after.Last = a, a
					}
				}
				if got, n := Step(c, b); got != after || n != 5 || b.File != want {
					t.Fatalf("TAM %x of %x: %s, %d, %x", mask, a, show(got), n, b.File)
				}
				b.File = mpr.File{10, 11, 0xf8, 13, 14, 15, 16, 300}
				place(b, codeAt, 0x43)
				want, after.R.A = b.File, modulo(last, 256)
				for k := range 8 {
					if mask>>(7-k)%2 == 1 {
						after.R.A = modulo(want[7-k], 256)
					}
				}
				after.Last = after.R.A
				if got, n := Step(c, b); got != after || n != 4 || b.File != want {
					t.Fatalf("TMA %x with %x: %s, %d, %x", mask, last, show(got), n, b.File)
				}
			}
		}
	}
}

// transferEnds are where transfers begin, so that they do not cross the instruction, unless they are long.
var transferEnds = [][2]int{{0x4a00, 0x4c00}, {0x4a00, 0x4a01}, {0x4a01, 0x4a00}, {0xfffe, 0x5000}, {0x5001, 0xffff}, {0x0001, 0x0000}, {0x3fff, 0x5fff}, {0x4a00, 0x4a00}}

// TestTransfers: P25.3, each of the five, of one byte, of several, and of 65536, with ends that go round, held against memory that is gone over place by place; registers stay.
func TestTransfers(t *testing.T) {
	base := machine(t, 1)
	b, want := twin(base), twin(base)
	for kind, first := range []int{0x73, 0xc3, 0xd3, 0xe3, 0xf3} {
		for _, length := range []int{1, 2, 3, 4, 7, 255, 256, 257, 65535, 0} {
			for _, ends := range transferEnds {
				mirror(b, base)
				place(b, codeAt, first, ends[0]%256, ends[0]/256, ends[1]%256, ends[1]/256, length%256, length/256)
				mirror(want, b)
				count := length
				if count == 0 {
					count = 65536
				}
				for i := range count {
					from := []int{i, -i, i, i, i % 2}[kind]
					to := []int{i, -i, 0, i % 2, i}[kind]
					want.Ram[modulo(ends[1]+to, 8192)] = want.Ram[modulo(ends[0]+from, 8192)]
				}
				after := begin()
				after.R.PC += 7
				if got, n := Step(begin(), b); got != after || n != 17+6*count {
					t.Fatalf("%02x of %d from %x: %s, %d", first, count, ends, show(got), n)
				}
				expect(t, b, want, "a transfer")
			}
		}
	}
}

// TestTransferSlow: P25.3, transfers to and from ports: each slow place takes a cycle more.
func TestTransferSlow(t *testing.T) {
	b, c := machine(t, 1), begin()
	b.File[0], b.Regs.Sel = 0xff, 2
	b.Vram.SetWrite(50)
	place(b, 0xa00, 1, 2, 3, 4, 5, 6)
	place(b, codeAt, 0xe3, 0x00, 0x4a, 0x02, 0x00, 0x06, 0x00) // to the words of video memory
	if _, n := Step(c, b); n != 17+6*6+6 || b.Vram.Word(50) != 0x0201 || b.Vram.Word(51) != 0x0403 || b.Vram.Word(52) != 0x0605 || b.Vram.Word(53) != 0 {
		t.Errorf("TIA: %d cycles, %x", n, b.Vram.Words(50, 4))
	}
	b.Vram.SetRead(50)
	place(b, codeAt, 0xf3, 0x02, 0x00, 0x00, 0x4b, 0x05, 0x00) // and back
	if _, n := Step(c, b); n != 17+6*5+5 || [6]byte(b.Ram[0xb00:0xb06]) != [6]byte{1, 2, 3, 4, 5, b.Ram[0xb05]} {
		t.Errorf("TAI: %d cycles, %x", n, b.Ram[0xb00:0xb06])
	}
	b.Vram.SetRead(50)
	b.Vce.Addr = 0
	place(b, codeAt, 0xd3, 0x02, 0x00, 0x04, 0x04, 0x02, 0x00) // from port to port
	if _, n := Step(c, b); n != 17+6*2+4 || b.Vce.Table[0] != 2 {
		t.Errorf("TIN: %d cycles, %x", n, b.Vce.Table[0])
	}
	place(b, codeAt, 0xd3, 0x02, 0x4a, 0x01, 0x00, 0x00, 0x00) // all of 65536, of which 2048 are slow
	if _, n := Step(c, b); n != 17+6*65536+65536+2048 {
		t.Errorf("TIN of all: %d cycles", n)
	}
}

// TestTransferWhole: P25.3, an interrupt that comes up within a transfer waits for its end.
func TestTransferWhole(t *testing.T) {
	b, c := machine(t, 1), begin()
	vectors(b)
	b.File[0], b.Regs.Sel, b.Regs.R[15], b.Regs.R[16], b.Regs.R[17] = 0xff, 18, 2, 100, 200
	for at := range 20 {
		b.Ram[0xa00+at] = 0
	}
	place(b, codeAt, 0xe3, 0x00, 0x4a, 0x02, 0x00, 0x14, 0x00) // ten lengths of one word: each is moved, and told
	c, n := Step(c, b)
	if c.R.PC != codeAt+7 || n != 17+6*20+20 || b.Irq.Lines != 2 || b.Regs.R[16] != 110 || b.Regs.R[17] != 210 {
		t.Errorf("the transfer: %s, %d, %v, %d", show(c), n, b.Irq, b.Regs.R[16:18])
	}
	c, n = Step(c, b)
	if c.R.PC != 0x6304 || n != 8 || b.Ram[0x1fd] != 0x44 || b.Ram[0x1fc] != 0x07 {
		t.Errorf("the interrupt: %s, %d", show(c), n)
	}
}

// TestTransferTimer: P25.3, a timer whose time is up within a transfer that reads it is not taken before the end.
func TestTransferTimer(t *testing.T) {
	b, c := machine(t, 1), begin()
	vectors(b)
	b.File[0], b.Timer, b.Irq.Mask = 0xff, timer.Timer{}, 0
	place(b, 0xa00, 1, 0) // on, and a Reload of 0
	place(b, codeAt, 0xe3, 0x00, 0x4a, 0x01, 0x0c, 0x01, 0x00, 0xea)
	c, _ = Step(c, b)
	b.Lag = 3072
	if c, _ = Step(c, b); c.R.PC != 0x6506 || b.Ram[0x1fc] != 0x07 {
		t.Errorf("%s, back to %x", show(c), b.Ram[0x1fc])
	}
}

// TestLeastAndMost: P25.4, the least and the most cycles over all 256 instructions, with the longest transfers, and branches both ways.
func TestLeastAndMost(t *testing.T) {
	b := machine(t, 1)
	least, most, single := math.MaxInt, 0, 0
	for first := range 256 {
		for _, p := range []int{0, 0xdf, api.FlagT, 0xff} {
			for _, m := range []byte{0, 255} {
				place(b, codeAt, first, 0, 0, 0, 0, 0, 0)
				b.Ram[0] = m
				c := begin()
				c.R.P = p
				_, n := Step(c, b)
				least, most = min(least, n), max(most, n)
				if modes[first] != '7' {
					single = max(single, n)
				}
				b.File = ramOnly // TAM may have set it
			}
		}
	}
	if least != 2 || most != 17+6*65536 || single != 10 {
		t.Errorf("from %d to %d, and %d without transfers", least, most, single)
	}
}

// other is a machine that is alike in the bytes of memory that are told, and in the file, and in nothing else that may be another.
func other(t testing.TB, b *bus.Bus, alike map[int]bool) *bus.Bus {
	o := bus.New(load(t, 2))
	o.File, o.Lag, o.Status, o.Hold, o.Latch = b.File, 55, 33, 12, 1
	o.Psg, o.Vce.Control, o.Irq.Mask = psg.Fresh(), 7, 3
	for at := range o.Ram {
		if o.Ram[at] = b.Ram[at]; !alike[at] {
			o.Ram[at] ^= 0xff
		}
	}
	return o
}

// TestAlike: P25.4, two machines that are alike in the bytes that are read are alike behind the step, in what is told and in what is written; all else stays as it was.
func TestAlike(t *testing.T) {
	c := &chance{77}
	b := machine(t, 1)
	b.Timer.On, b.Timer.Pre = false, 0
	for i := range 256 * 4 {
		first := i % 256
		before := c.prepare(b, first)
		b.File, b.Lag, b.Irq.Lines = ramOnly, 0, 0
		b.Timer = timer.Timer{}
		m := &model{Core: before, b: twin(b)}
		m.step()
		read, written := map[int]bool{}, map[int]bool{}
		for _, at := range m.reads {
			read[at%8192] = true
		}
		for _, at := range m.writes {
			if at/8192 == 0xf8 {
				written[at%8192] = true
			}
		}
		o := other(t, b, read)
		was := twin(o)
		one, cycles := Step(before, b)
		two, again := Step(before, o)
		if one != two || cycles != again || b.File != o.File {
			t.Fatalf("%02x: %s, %d, and %s, %d", first, show(one), cycles, show(two), again)
		}
		for at := range o.Ram {
			if written[at] && o.Ram[at] != b.Ram[at] || !written[at] && o.Ram[at] != was.Ram[at] {
				t.Fatalf("%02x: Ram[%x] is %x, and %x", first, at, b.Ram[at], o.Ram[at])
			}
		}
		was.Ram, was.File, was.Lag = o.Ram, o.File, 0
		if first != 0x03 && first != 0x13 && first != 0x23 {
			expect(t, o, was, "the other machine")
		}
	}
}
