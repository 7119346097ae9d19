package console

import (
	"fmt"
	"math/rand/v2"
	"testing"

	"phosphor/cpu"
	"phosphor/dma"
	"phosphor/line"
	"phosphor/psg"
	"phosphor/timer"
	"phosphor/timing"
)

// model is a second console, that goes tick by tick, as the chapter says; what it told is kept in told.
type model struct {
	*Console
	told Frame

	// What happened, so that a test can tell that it was tried.
	steps, taken, rounds, moves, laid, bits int
}

// and adds what happened to another.
func (m *model) and(other *model) {
	m.steps += other.steps
	m.taken += other.taken
	m.rounds += other.rounds
	m.moves += other.moves
	m.laid += other.laid
	m.bits |= other.bits
}

// expectMuch tells of programs that do too little to try what they must.
func (m *model) expectMuch(t *testing.T) {
	t.Helper()
	if m.taken < 100 || m.rounds < 100 || m.moves < 10 || m.laid < 5 || m.bits != 47 {
		t.Errorf("the programs do too little: %d steps, %d interrupts, %d rounds, %d moves, %d geometries, and the bits %d", m.steps, m.taken, m.rounds, m.moves, m.laid, m.bits)
	}
}

func modelOf(c *Console) *model { return &model{Console: twin(c)} }

// run goes so many ticks on.
func (m *model) run(ticks int) Frame {
	m.told = Frame{}
	for range ticks {
		m.tick()
	}
	return m.told
}

func (m *model) tick() {
	if m.Tick == 0 {
		m.lay()
	}
	if m.Tick%1365 == 0 {
		m.line(m.Tick / 1365)
	}
	if m.Wait == 0 {
		m.step()
	}
	m.Wait--
	t, n := timer.Advance(m.Bus.Timer, 1)
	m.Bus.Timer = t
	if n != 0 {
		m.Bus.Irq.Lines |= 4
		m.rounds++
	}
	m.Tick++
	if m.Tick%455 == 0 {
		s, p := psg.Samples(m.Bus.Psg, 1)
		m.Bus.Psg = p
		m.told.Samples = append(m.told.Samples, s[0])
	}
	if m.Tick == m.Geometry.Lines*1365 {
		m.Tick = 0
	}
}

// lay tells how a frame is laid.
func (m *model) lay() {
	before := m.Geometry
	control := m.Bus.Vce.Control
	r := m.Bus.Regs.R
	m.Geometry = timing.Of(timing.Setup{Dot: []int{4, 3, 2, 2}[control%4], Lines: 262 + control/4%2, Hdr: r[11], Vpr: r[12], Vdw: r[13], Vcr: r[14]})
	if m.Geometry != before {
		m.laid++
	}
}

func (m *model) step() {
	pushed := m.Core.R.S
	interrupts := m.Bus.Irq.Lines&^m.Bus.Irq.Mask != 0 && m.Core.R.P&4 == 0
	core, cycles := cpu.Step(m.Core, m.Bus)
	m.Core = core
	if m.Wait = 12 * cycles; core.Fast {
		m.Wait = 3 * cycles
	}
	m.steps++
	if interrupts && (pushed-core.R.S+256)%256 == 3 {
		m.taken++
	}
}

// tell sets a bit of the status; where may is not 0, the line is raised.
func (m *model) tell(bit, may int) {
	m.Bus.Status |= bit
	m.bits |= bit
	if may != 0 {
		m.Bus.Irq.Lines |= 2
	}
}

func (m *model) line(number int) {
	b, g := m.Bus, m.Geometry
	control := b.Regs.R[5]
	if number >= g.Top && number < g.Bottom {
		n := number - g.Top
		if n == 0 || b.Moved {
			m.Back = b.Regs.R[8]
		} else if m.Back++; m.Back == 65536 {
			m.Back = 0
		}
		if n != 0 && b.Moved {
			m.moves++
		}
		b.Moved = false
		if b.Regs.R[6] >= 64 && b.Regs.R[6] == n+64 {
			m.tell(4, control&4)
		}
		colours, over, hit := line.Draw(line.Input{Vram: b.Vram, Regs: b.Regs, Table: b.Table, Vce: b.Vce, X: b.Regs.R[7], Y: m.Back, Line: n, Wide: g.Width})
		m.told.Lines = append(m.told.Lines, colours)
		if over {
			m.tell(2, control&2)
		}
		if hit {
			m.tell(1, control&1)
		}
	}
	if number == g.Blank {
		if b.Wait || b.Regs.R[15]&16 != 0 {
			b.Table = dma.Table(b.Vram, b.Regs.R[19])
			b.Wait = false
			m.tell(8, b.Regs.R[15]&1)
		}
		m.tell(32, control&8)
	}
}

// compare runs a console and the model of it, by parts of any lengths, and holds them against each other behind each.
func compare(t *testing.T, x *Console, ticks, part int, seed uint64, what string) *model {
	t.Helper()
	r := rand.New(rand.NewPCG(seed, 2))
	m := modelOf(x)
	for done := 0; done < ticks; {
		n := 1 + r.IntN(part)
		got, want := x.Run(n), m.run(n)
		done += n
		where := fmt.Sprintf("%s, %d ticks", what, done)
		expectFrame(t, got, want, where)
		expect(t, x, m.Console, where)
		if !Valid(x) {
			t.Fatalf("%s: it is not Valid", where)
		}
	}
	return m
}

// TestModelPrograms: P26.2, Run of any ticks is as the console that goes tick by tick, of programs that use all chips; presses and resets come between.
func TestModelPrograms(t *testing.T) {
	var all model
	for k, p := range programs() {
		t.Run(p.name, func(t *testing.T) {
			x := p.console(t)
			for i, part := range []int{400000, 5000, 900, 40} {
				all.and(compare(t, x, []int{1100000, 400000, 40000, 2000}[i], part, uint64(k), p.name))
				x.Press(keys(k*31 + i*7))
			}
			x.Reset()
			compare(t, x, 400000, 100000, uint64(k), p.name+" behind Reset")
		})
	}
	all.expectMuch(t)
}

// TestModelAnything: P26.2, the same of programs of any pieces, and of cards whose bytes are any.
func TestModelAnything(t *testing.T) {
	var all model
	for seed := range uint64(12) {
		all.and(compare(t, anything(seed).console(t), 800000, 300000, seed, fmt.Sprint("anything ", seed)))
		compare(t, made(t, chance(t, seed)), 400000, 100000, seed, fmt.Sprint("chance ", seed))
	}
	all.expectMuch(t)
}

// TestModelLong: P26.2, the longest run at once.
func TestModelLong(t *testing.T) {
	for _, p := range []program{busy(), moving(), restless()} {
		x := p.console(t)
		m := modelOf(x)
		expectFrame(t, x.Run(1<<22), m.run(1<<22), p.name)
		expect(t, x, m.Console, p.name)
	}
}
