package cpu

import (
	"math"
	"testing"

	"phosphor/alu"
	"phosphor/bus"
	"phosphor/irq"
	"phosphor/mpr"
	"phosphor/timer"
)

// model is a second processor: it goes by the bytes of instructions and their bits, not by names, and notes each place on the bus that it reads and writes.
type model struct {
	Core
	b             *bus.Bus
	cycles, slow  int
	reads, writes []int
}

// modes has a letter for each byte, as the table of chapter 7 has a mode: . imp, A acc, # imm, z zp, x zpx, y zpy, i inx, j iny, k ind, a abs, b abx, c aby, n jin, m jix, r rel, q zpr, 7 blk, t izp, u izx, v iab, w iax.
const modes = "" +
	".i.#zzzz.#A.aaaq" +
	"rjk#zxxz.cA.abbq" +
	"ai.#zzzz.#A.aaaq" +
	"rjk.xxxz.cA.bbbq" +
	".i.#rzzz.#A.aaaq" +
	"rjk#.xxz.c...bbq" +
	".i..zzzz.#A.naaq" +
	"rjk7xxxz.c..mbbq" +
	"ri.tzzzz.#..aaaq" +
	"rjkvxxyz.c..abbq" +
	"#i#uzzzz.#..aaaq" +
	"rjkwxxyz.c..bbcq" +
	"#i.7zzzz.#..aaaq" +
	"rjk7.xxz.c...bbq" +
	"#i.7zzzz.#..aaaq" +
	"rjk7.xxz.c...bbq"

// baseCycles has a digit for each byte, as that table has cycles; h is 17.
const baseCycles = "" +
	"8734646732227576" +
	"2774646725227576" +
	"7734446742225576" +
	"2772446725225576" +
	"7734846732224576" +
	"2775346725322576" +
	"7722446742227576" +
	"277h446725427576" +
	"4727444722225556" +
	"2778444725225556" +
	"2727444722225556" +
	"2778444725225556" +
	"272h446722225576" +
	"277h346725322576" +
	"272h446722225576" +
	"277h246725422576"

// at tells where on the bus a place is, and counts the cycles of slow ones: the first two ports of the last page.
func (m *model) at(place int) int {
	place = modulo(place, 65536)
	page, rest := modulo(m.b.File[place/8192], 256), place%8192
	if page == 255 && rest < 2048 {
		m.slow++
	}
	return page*8192 + rest
}

func (m *model) get(place int) int {
	at := m.at(place)
	m.reads = append(m.reads, at)
	return modulo(m.b.Read(at), 256)
}

func (m *model) put(place, n int) {
	at := m.at(place)
	m.writes = append(m.writes, at)
	m.b.Write(at, n)
}

func (m *model) push(n int) {
	m.put(0x2100+m.R.S, n)
	m.R.S = modulo(m.R.S-1, 256)
}

func (m *model) pull() int {
	m.R.S = modulo(m.R.S+1, 256)
	return m.get(0x2100 + m.R.S)
}

func (m *model) flag(flag int, on bool) {
	if m.R.P &= 255 - flag; on {
		m.R.P += flag
	}
}

func (m *model) nz(n int) int {
	m.flag(0x80, n >= 128)
	m.flag(2, n == 0)
	return n
}

func (m *model) do(op, a, n int) int {
	r, p := alu.Do(op, a, n, m.R.P)
	m.R.P = p
	return r
}

func (m *model) trap(back, p, vector int) {
	m.push(modulo(back, 65536) / 256)
	m.push(modulo(back, 256))
	m.push(p)
	m.flag(4, true)
	m.flag(8, false)
	m.flag(32, false)
	low := m.get(vector)
	m.R.PC = low + 256*m.get(vector+1)
}

// step is Step.
func (m *model) step() {
	r := &m.R
	for _, n := range []*int{&r.A, &r.X, &r.Y, &r.S, &r.P} {
		*n = modulo(*n, 256)
	}
	r.PC = modulo(r.PC, 65536)
	m.cycles, m.slow, m.reads, m.writes = 0, 0, nil, nil
	m.b.Settle()
	if free := m.b.Irq.Lines &^ m.b.Irq.Mask & 7; free != 0 && r.P&4 == 0 {
		vector := []int{0, 0xfff6, 0xfff8, 0xfff8, 0xfffa, 0xfffa, 0xfffa, 0xfffa}[free]
		m.cycles = 8
		m.trap(r.PC, r.P&0xef, vector)
	} else {
		m.instruction()
	}
	m.cycles += m.slow
}

// instruction reads one, tells its parts, and does it.
func (m *model) instruction() {
	r := &m.R
	first := m.get(r.PC)
	mode := modes[first]
	length := map[byte]int{'.': 1, 'A': 1, 'a': 3, 'b': 3, 'c': 3, 'n': 3, 'm': 3, 'q': 3, 't': 3, 'u': 3, 'v': 4, 'w': 4, '7': 7}[mode]
	if length == 0 {
		length = 2
	}
	var bytes [7]int
	for k := 1; k < length; k++ {
		bytes[k] = m.get(r.PC + k)
	}
	r.PC = modulo(r.PC+length, 65536)
	if m.cycles = int(baseCycles[first] - '0'); baseCycles[first] == 'h' {
		m.cycles = 17
	}
	t := r.P&32 != 0
	m.flag(32, false)
	if mode == '7' {
		m.blocks(first, bytes[1]+256*bytes[2], bytes[3]+256*bytes[4], bytes[5]+256*bytes[6])
		return
	}
	m.act(first, mode, bytes, m.find(mode, bytes), t)
}

// find tells the place of a mode; -1: it has none.
func (m *model) find(mode byte, bytes [7]int) int {
	r := m.R
	zero := func(n int) int { return 0x2000 + modulo(n, 256) }
	word := bytes[1] + 256*bytes[2]
	pointer := func(n int) int {
		low := m.get(zero(n))
		return low + 256*m.get(zero(n+1))
	}
	jump := func(n int) int {
		low := m.get(n)
		return low + 256*m.get(n+1)
	}
	switch mode {
	case 'z', 'q':
		return zero(bytes[1])
	case 'x':
		return zero(bytes[1] + r.X)
	case 'y':
		return zero(bytes[1] + r.Y)
	case 'i':
		return pointer(bytes[1] + r.X)
	case 'j':
		return modulo(pointer(bytes[1])+r.Y, 65536)
	case 'k':
		return pointer(bytes[1])
	case 'a':
		return word
	case 'b':
		return modulo(word+r.X, 65536)
	case 'c':
		return modulo(word+r.Y, 65536)
	case 'n':
		return jump(word)
	case 'm':
		return jump(word + r.X)
	case 't':
		return zero(bytes[2])
	case 'u':
		return zero(bytes[2] + r.X)
	case 'v':
		return bytes[2] + 256*bytes[3]
	case 'w':
		return modulo(bytes[2]+256*bytes[3]+r.X, 65536)
	}
	return -1
}

func (m *model) branch(on bool, by int) {
	if on {
		m.R.PC = modulo(m.R.PC+by-by/128*256, 65536)
		m.cycles += 2
	}
}

// act does an instruction, by its column: of columns in which all are of one kind, here; else single.
func (m *model) act(first int, mode byte, bytes [7]int, place int, t bool) {
	r, row, k := &m.R, first>>5, first>>4&7
	value := func() int {
		switch mode {
		case '#':
			return bytes[1]
		case 'A':
			return r.A
		}
		return m.get(place)
	}
	switch column := first & 0x1f; column {
	case 0x01, 0x05, 0x0d, 0x11, 0x12, 0x15, 0x19, 0x1d, 0x09:
		switch {
		case first == 0x89:
			m.do(alu.Bit, r.A, value())
		case row == 4:
			m.put(place, r.A)
		default:
			m.sum([]int{alu.Or, alu.And, alu.Xor, alu.Adc, 0, alu.Lda, alu.Cmp, alu.Sbc}[row], value(), t && row < 4)
		}
	case 0x06, 0x0e, 0x16, 0x1e:
		switch {
		case first == 0x9e:
			m.put(place, 0)
		case row == 4:
			m.put(place, r.X)
		case row == 5:
			r.X = m.nz(value())
		default:
			m.put(place, m.do([]int{alu.Asl, alu.Rol, alu.Lsr, alu.Ror, 0, 0, alu.Dec, alu.Inc}[row], 0, value()))
		}
	case 0x07, 0x17:
		if n := value() &^ (1 << k); first < 0x80 {
			m.put(place, n)
		} else {
			m.put(place, n+1<<k)
		}
	case 0x0f, 0x1f:
		m.branch((value()>>k&1 == 1) == (first >= 0x80), bytes[2])
	case 0x10:
		flag := []int{0x80, 0x80, 0x40, 0x40, 1, 1, 2, 2}[row]
		m.branch((r.P&flag != 0) == (row%2 == 1), bytes[1])
	default:
		m.single(first, mode, bytes, place, value)
	}
}

func (m *model) sum(op, n int, t bool) {
	if !t {
		m.R.A = m.do(op, m.R.A, n)
		return
	}
	m.cycles += 3
	place := 0x2000 + m.R.X
	m.put(place, m.do(op, m.get(place), n))
}

// single does instructions that read or write, one by one; else plain.
func (m *model) single(first int, mode byte, bytes [7]int, place int, value func() int) {
	r := &m.R
	switch first {
	case 0x0a, 0x2a, 0x4a, 0x6a:
		r.A = m.do([]int{alu.Asl, alu.Rol, alu.Lsr, alu.Ror}[first>>5], 0, r.A)
	case 0x1a, 0x3a:
		r.A = m.do(alu.Inc+first>>5, 0, r.A)
	case 0x04, 0x0c:
		m.put(place, m.do(alu.Tsb, r.A, value()))
	case 0x14, 0x1c:
		m.put(place, m.do(alu.Trb, r.A, value()))
	case 0x24, 0x2c, 0x34, 0x3c:
		m.do(alu.Bit, r.A, value())
	case 0x83, 0x93, 0xa3, 0xb3:
		m.do(alu.Bit, bytes[1], value())
	case 0x64, 0x74, 0x9c:
		m.put(place, 0)
	case 0x84, 0x8c, 0x94:
		m.put(place, r.Y)
	case 0xa0, 0xa4, 0xac, 0xb4, 0xbc:
		r.Y = m.nz(value())
	case 0xa2:
		r.X = m.nz(value())
	case 0xc0, 0xc4, 0xcc:
		m.do(alu.Cmp, r.Y, value())
	case 0xe0, 0xe4, 0xec:
		m.do(alu.Cmp, r.X, value())
	case 0x4c, 0x6c, 0x7c:
		r.PC = place
	case 0x20:
		m.call(place)
	case 0x44:
		m.call(modulo(r.PC+bytes[1]-bytes[1]/128*256, 65536))
	case 0x80:
		m.branch(true, bytes[1])
		m.cycles -= 2
	case 0x03, 0x13, 0x23:
		m.writes = append(m.writes, 0x1fe000)
		m.b.Write([]int{0x1fe000, 0x1fe002, 0x1fe003}[first>>4], bytes[1])
	case 0x43:
		m.tma(bytes[1])
	case 0x53:
		m.tam(bytes[1])
	default:
		m.plain(first)
	}
}

func (m *model) call(to int) {
	back := modulo(m.R.PC-1, 65536)
	m.push(back / 256)
	m.push(back % 256)
	m.R.PC = to
}

func (m *model) tam(mask int) {
	for k := range 8 {
		if mask>>k&1 == 1 {
			m.b.File[k], m.Last = m.R.A, m.R.A
		}
	}
}

func (m *model) tma(mask int) {
	m.R.A = modulo(m.Last, 256)
	for k := 7; k >= 0; k-- {
		if mask>>k&1 == 1 {
			m.R.A = modulo(m.b.File[k], 256)
		}
	}
	m.Last = m.R.A
}

// plain does instructions of one byte.
func (m *model) plain(first int) {
	r := &m.R
	switch first {
	case 0x00:
		m.trap(r.PC+1, r.P|16, 0xfff6)
	case 0x40:
		r.P = m.pull()
		low := m.pull()
		r.PC = low + 256*m.pull()
	case 0x60:
		low := m.pull()
		r.PC = modulo(low+256*m.pull()+1, 65536)
	case 0x08:
		m.push(r.P | 16)
	case 0x28:
		r.P = m.pull()
	case 0x48:
		m.push(r.A)
	case 0x5a:
		m.push(r.Y)
	case 0xda:
		m.push(r.X)
	case 0x68:
		r.A = m.nz(m.pull())
	case 0x7a:
		r.Y = m.nz(m.pull())
	case 0xfa:
		r.X = m.nz(m.pull())
	case 0x02:
		r.X, r.Y = r.Y, r.X
	case 0x22:
		r.A, r.X = r.X, r.A
	case 0x42:
		r.A, r.Y = r.Y, r.A
	case 0x62:
		r.A = 0
	case 0x82:
		r.X = 0
	case 0xc2:
		r.Y = 0
	case 0x54:
		m.Fast = false
	case 0xd4:
		m.Fast = true
	case 0x88:
		r.Y = m.nz(modulo(r.Y-1, 256))
	case 0xca:
		r.X = m.nz(modulo(r.X-1, 256))
	case 0xc8:
		r.Y = m.nz(modulo(r.Y+1, 256))
	case 0xe8:
		r.X = m.nz(modulo(r.X+1, 256))
	default:
		m.plainest(first)
	}
}

// plainest does what copies registers, and sets flags; all else does nothing.
func (m *model) plainest(first int) {
	r := &m.R
	switch first {
	case 0x8a:
		r.A = m.nz(r.X)
	case 0x98:
		r.A = m.nz(r.Y)
	case 0x9a:
		r.S = r.X
	case 0xa8:
		r.Y = m.nz(r.A)
	case 0xaa:
		r.X = m.nz(r.A)
	case 0xba:
		r.X = m.nz(r.S)
	case 0x18, 0x38:
		m.flag(1, first == 0x38)
	case 0x58, 0x78:
		m.flag(4, first == 0x78)
	case 0xd8, 0xf8:
		m.flag(8, first == 0xf8)
	case 0xb8:
		m.flag(64, false)
	case 0xf4:
		m.flag(32, true)
	}
}

func (m *model) blocks(first, from, to, length int) {
	if length == 0 {
		length = 65536
	}
	for i := range length {
		switch first {
		case 0x73:
			m.put(to+i, m.get(from+i))
		case 0xc3:
			m.put(to-i, m.get(from-i))
		case 0xd3:
			m.put(to, m.get(from+i))
		case 0xe3:
			m.put(to+i%2, m.get(from+i))
		case 0xf3:
			m.put(to+i, m.get(from+i%2))
		}
	}
	m.cycles += 6 * length
}

// chance is a row of numbers by a rule, so that each run is the same.
type chance struct{ state uint64 }

func (c *chance) below(n int) int {
	c.state = c.state*6364136223846793005 + 1442695040888963407
	return int(c.state>>33) % n
}

// file is one in which memory, ports, pages of the card and pages of nothing are mixed.
func (c *chance) file() mpr.File {
	var f mpr.File
	for k := range f {
		switch c.below(8) {
		case 0, 1, 2:
			f[k] = 0xf8 + c.below(4)
		case 3, 4:
			f[k] = 0xff
		case 5:
			f[k] = c.below(256)
		case 6:
			f[k] = c.below(128)
		default:
			f[k] = []int{256 + 0xf8, -1, -8, math.MaxInt, math.MinInt, 1 << 40, 0x80}[c.below(7)]
		}
	}
	return f
}

// prepare lays a step: registers, and an instruction in memory at PC, of which the first byte is told.
func (c *chance) prepare(b *bus.Bus, first int) Core {
	if c.below(4) == 0 {
		b.File = c.file()
	}
	core := Core{Fast: c.below(2) == 0, Last: c.below(256)}
	core.R.A, core.R.X, core.R.Y, core.R.S, core.R.P = c.below(256), c.below(256), c.below(256), c.below(256), c.below(256)
	core.R.PC = c.below(65536)
	if c.below(16) == 0 {
		core.R.PC = []int{0xfffa, 0xfffd, 0xfffe, 0xffff, 0x1ffe, 0x1fff, 0x3fff, 0xdffe}[c.below(8)]
	}
	if c.below(16) != 0 {
		b.File[core.R.PC/8192] = 0xf8
	}
	at := core.R.PC % 8192
	for k := range 7 {
		b.Ram[(at+k)%8192] = byte(c.below(256))
	}
	b.Ram[at] = byte(first)
	if modes[first] == '7' { // long ones have a test of their own
		b.Ram[(at+6)%8192], b.Ram[(at+5)%8192] = 0, byte(1+c.below(40))
	}
	if b.Regs.Sel == 18 && c.below(8) != 0 { // moves of video memory take long
		b.Regs.Sel = c.below(20)
	}
	if c.below(8) == 0 {
		b.Irq = irq.State{Mask: c.below(8), Lines: c.below(8)}
		b.Timer = timer.Timer{Reload: c.below(128), Count: c.below(2), On: true, Pre: c.below(3072)}
		b.Status = c.below(64)
	}
	if b.Lag = c.below(5000); c.below(3) == 0 {
		b.Irq.Lines = 0
	}
	return core
}

// TestWalk: P25.2, P25.3 and P25.4, steps of all instructions, with all kinds of places mixed, held against the model: registers, cycles and the whole machine; and the bounds of the cycles.
func TestWalk(t *testing.T) {
	for _, pages := range []int{1, 48, 320} {
		c := &chance{uint64(pages)}
		b := machine(t, pages)
		m := &model{b: twin(b)}
		for i := range 256 * 60 {
			first := i % 256
			before := c.prepare(b, first)
			mirror(m.b, b)
			m.Core = before
			got, cycles := Step(before, b)
			m.step()
			if got != m.Core || cycles != m.cycles {
				t.Fatalf("step %d, %02x, File %x: of %s: %s, %d, want %s, %d", i, first, b.File, show(before), show(got), cycles, show(m.Core), m.cycles)
			}
			expect(t, b, m.b, show(before))
			if cycles < 2+m.slow || cycles > 17+6*65536+m.slow {
				t.Fatalf("%02x takes %d cycles", first, cycles)
			}
			if i%1024 == 0 {
				expectWords(t, b, m.b, show(before))
			}
		}
		expectWords(t, b, m.b, "a walk")
	}
}

// TestRun: P25.2 and P25.3, programs that nobody wrote run on and on, as the model does.
func TestRun(t *testing.T) {
	for seed := range 12 {
		c := &chance{uint64(seed)}
		b := machine(t, []int{1, 2, 96, 320}[seed%4])
		for at := range b.Ram {
			b.Ram[at] = byte(c.below(256))
		}
		core := Start(b)
		core.R.PC = 0x2000 + c.below(8192)
		m := &model{Core: core, b: twin(b)}
		cycles := 0
		for i := range 1200 {
			b.Lag, m.b.Lag = cycles, cycles
			if c.below(50) == 0 {
				b.Tell(bus.Blank, true)
				m.b.Tell(bus.Blank, true)
			}
			if b.Regs.Sel == 18 {
				b.Regs.Sel, m.b.Regs.Sel = 2, 2
			}
			core, cycles = Step(core, b)
			m.step()
			if core != m.Core || cycles != m.cycles || cycles < 2 || cycles > 17+6*65536+m.slow {
				t.Fatalf("seed %d, step %d: %s, %d, want %s, %d", seed, i, show(core), cycles, show(m.Core), m.cycles)
			}
			if cycles > 1000 || i%64 == 0 {
				expect(t, b, m.b, "a run")
			}
		}
		expect(t, b, m.b, "a run")
		expectWords(t, b, m.b, "a run")
	}
}
