package console

import (
	"fmt"
	"math"
	"math/rand/v2"
	"slices"
	"testing"

	"phosphor/api"
	"phosphor/bus"
	"phosphor/card"
	"phosphor/cpu"
	"phosphor/mpr"
	"phosphor/pad"
	"phosphor/psg"
	"phosphor/timer"
	"phosphor/timing"
)

// keys are some that are pressed.
func keys(n int) [5]pad.Pad {
	var pads [5]pad.Pad
	for k := range pads {
		pads[k] = pad.Pad{Keys: (n*77 + k*1000) % 65536, Six: (n+k)%2 == 0}
	}
	return pads
}

// TestNewOfNone: P26.1, nil, where there is no card.
func TestNewOfNone(t *testing.T) {
	if x := New(nil); x != nil {
		t.Errorf("New of nil is %v", x)
	}
	if x := New(&card.Card{}); x != nil {
		t.Errorf("New of a card that no call made is %v", x)
	}
}

// TestNew: P26.1, of cards of each number of pages: what bus.New makes, cpu.Start of it, the Geometry of its registers, and else 0.
func TestNew(t *testing.T) {
	for _, pages := range []int{1, 2, 4, 8, 16, 32, 64, 128, 48, 96, 320} {
		c := busy().load(t, pages)
		x := made(t, c)
		b := bus.New(c)
		want := Console{Core: cpu.Start(b), Geometry: timing.Geometry{Width: 8, Top: 3, Bottom: 4, Blank: 4, Lines: 262}, Bus: b}
		if want.Core.R != (api.Registers{P: api.FlagI, PC: codeAt}) || want.Core.Fast {
			t.Fatalf("%d pages: cpu.Start is %v", pages, want.Core)
		}
		expect(t, x, &want, fmt.Sprint(pages, " pages"))
		if x.Bus.Card != c || x.Bus.File != (mpr.File{1: 0xf8}) {
			t.Errorf("%d pages: another card, or file %x", pages, x.Bus.File)
		}
		if !Valid(x) {
			t.Errorf("%d pages: it is not Valid", pages)
		}
	}
}

// TestNewApart: P26.1, two consoles of one card have nothing in common but that.
func TestNewApart(t *testing.T) {
	c := busy().load(t, 1)
	x, y := made(t, c), made(t, c)
	before := twin(y)
	x.Press(keys(3))
	for range 3 {
		x.RunFrame()
	}
	expect(t, y, before, "the other one")
}

// TestReset: P26.1, in the midst of a frame Core and Wait are others, and the File, by cpu.Start; nothing else is.
func TestReset(t *testing.T) {
	for _, c := range []*Console{rich(t), midst(t, busy()), midst(t, moving())} {
		c.Bus.File[3], c.Bus.File[7], c.Core.Last = 0x12, 0, 9
		want := twin(c)
		want.Core = cpu.Core{R: api.Registers{P: api.FlagI, PC: codeAt}}
		want.Wait = 0
		want.Bus.File = mpr.File{1: 0xf8}
		if c.Tick == 0 || c.Wait == 0 || c.Back == 0 || c.Core == want.Core {
			t.Fatalf("it is not in the midst: %v", c)
		}
		c.Reset()
		expect(t, c, want, "Reset")
		c.Reset()
		expect(t, c, want, "Reset again")
	}
}

// TestResetPage: P26.1, the word behind the reset is read in the card's first page, also where other pages were mapped there.
func TestResetPage(t *testing.T) {
	x := made(t, busy().load(t, 8))
	x.Bus.File[7] = 5
	x.Core.R.PC = 0x1234
	x.Reset()
	if x.Core.R.PC != codeAt || x.Bus.File[7] != 0 {
		t.Errorf("PC is %x, register 7 is %x", x.Core.R.PC, x.Bus.File[7])
	}
}

// TestResetUnright: P26.1, Reset and Press do not ask whether it is Valid.
func TestResetUnright(t *testing.T) {
	x := rich(t)
	x.Tick, x.Back, x.Core.R.A, x.Bus.Lag = -5, 1<<40, 300, 77
	want := twin(x)
	want.Core, want.Wait = cpu.Core{R: api.Registers{P: api.FlagI, PC: codeAt}}, 0
	want.Bus.Pads = keys(5)
	x.Reset()
	x.Press(keys(5))
	expect(t, x, want, "of one that is not Valid")
}

// midst is a console of a program, some frames and some ticks on.
func midst(t *testing.T, p program) *Console {
	t.Helper()
	x := p.console(t)
	x.RunFrame()
	x.RunFrame()
	x.Run(123457)
	if x.Wait == 0 {
		x.Run(1)
	}
	return x
}

// TestPress: P26.1, the Pads are those, with Keys modulo 65536, and nothing else is changed.
func TestPress(t *testing.T) {
	rows := []struct{ keys, want int }{
		{0, 0}, {1, 1}, {0x842, 0x842}, {65535, 65535}, {65536, 0}, {65537, 1}, {-1, 65535}, {-65536, 0}, {-65535, 1}, {131071, 65535},
		{math.MaxInt, 65535}, {math.MaxInt - 1, 65534}, {math.MinInt, 0}, {math.MinInt + 1, 1}, {1 << 40, 0},
	}
	x := rich(t)
	for _, r := range rows {
		for k := range 5 {
			for _, six := range []bool{false, true} {
				pads := keys(9)
				pads[k] = pad.Pad{Keys: r.keys, Six: six}
				want := twin(x)
				want.Bus.Pads = keys(9)
				want.Bus.Pads[k] = pad.Pad{Keys: r.want, Six: six}
				x.Press(pads)
				expect(t, x, want, fmt.Sprint("Press of ", r.keys))
				if pads[k].Keys != r.keys {
					t.Errorf("what was handed in is %d now", pads[k].Keys)
				}
			}
		}
	}
	if !Valid(x) {
		t.Error("it is not Valid")
	}
}

// TestPressHeard: P26.1, the program reads what is pressed.
func TestPressHeard(t *testing.T) {
	p := program{start: join(awake(), store(0x1000, 0), fetch(0x1000), []byte{0x85, 0x20}, again())}
	x := p.console(t)
	x.Run(2000)
	if x.Bus.Ram[0x20] != 0xff {
		t.Errorf("%x is read", x.Bus.Ram[0x20])
	}
	x.Press([5]pad.Pad{{Keys: 65536 + 5}})
	x.Run(2000)
	if x.Bus.Ram[0x20] != 0xfa {
		t.Errorf("%x is read", x.Bus.Ram[0x20])
	}
}

// TestRunFrameInvalid: P26.3, nothing of a console that is not Valid.
func TestRunFrameInvalid(t *testing.T) {
	for k, x := range unright(t) {
		want := twin(x)
		expectNothing(t, x.RunFrame(), fmt.Sprint("console ", k))
		expect(t, x, want, fmt.Sprint("console ", k))
	}
}

// unright are consoles that are made, but not Valid.
func unright(t testing.TB) []*Console {
	var all []*Console
	for _, spoil := range []func(x *Console){
		func(x *Console) { x.Tick = -1 },
		func(x *Console) { x.Tick = 262 * 1365 },
		func(x *Console) { x.Wait = 1 << 24 },
		func(x *Console) { x.Wait = -1 },
		func(x *Console) { x.Back = 65536 },
		func(x *Console) { x.Core.R.PC = 65536 },
		func(x *Console) { x.Core.R.A = -1 },
		func(x *Console) { x.Core.Last = 256 },
		func(x *Console) { x.Geometry = timing.Geometry{} },
		func(x *Console) { x.Geometry.Lines = 0; x.Tick = 0 },
		func(x *Console) { x.Geometry.Lines = math.MaxInt },
		func(x *Console) { x.Bus.Lag = 1 },
		func(x *Console) { x.Bus.Status = 64 },
		func(x *Console) { x.Bus.Psg.C[3].Rand = 0 },
		func(x *Console) { x.Bus.Timer.Pre = 3072 },
	} {
		x := rich(t)
		spoil(x)
		all = append(all, x)
	}
	return all
}

// TestRunFrameLaid: P26.3, at Tick 0 so many ticks as the Geometry has that is told there, of 262 and of 263 lines, whatever it was before.
func TestRunFrameLaid(t *testing.T) {
	for _, before := range []int{262, 263} {
		for _, lines := range []int{262, 263} {
			x := rich(t)
			x.Tick = 0
			x.Geometry = timing.Geometry{Width: 300, Top: 9, Bottom: 100, Blank: 100, Lines: before}
			x.Bus.Vce.Control = (lines - 262) * 4
			want := modelOf(x)
			told := want.run(lines * 1365)
			f := x.RunFrame()
			expectFrame(t, f, told, fmt.Sprint(before, " and ", lines))
			expect(t, x, want.Console, fmt.Sprint(before, " and ", lines))
			if x.Tick != 0 || len(f.Samples) != 3*lines || len(f.Lines) != 240 || x.Wait != asleep-lines*1365 || x.Geometry.Lines != lines {
				t.Errorf("%d, then %d lines: Tick %d, %d samples, %d lines, Wait %d", before, lines, x.Tick, len(f.Samples), len(f.Lines), x.Wait)
			}
		}
	}
}

// TestRunFrameMidst: P26.3, else so many as are left of the Geometry that there is, whatever the registers say by then.
func TestRunFrameMidst(t *testing.T) {
	for _, lines := range []int{262, 263} {
		frame := lines * 1365
		for _, tick := range []int{1, 454, 455, 1364, 1365, 1366, 100000, frame - 1366, frame - 1365, frame - 455, frame - 2, frame - 1} {
			x := rich(t)
			x.Tick, x.Geometry.Lines = tick, lines
			x.Bus.Vce.Control = (263 - lines) * 4
			m := modelOf(x)
			told := m.run(frame - tick)
			f := x.RunFrame()
			what := fmt.Sprint(lines, " lines, from ", tick)
			expectFrame(t, f, told, what)
			expect(t, x, m.Console, what)
			if x.Tick != 0 || x.Wait != asleep-(frame-tick) || len(f.Samples) != lines*3-tick/455 {
				t.Errorf("%s: Tick %d, Wait %d, %d samples", what, x.Tick, x.Wait, len(f.Samples))
			}
			if g := x.Geometry; g.Lines != lines || g.Width != 256 {
				t.Errorf("%s: the Geometry is %v", what, g)
			}
			if f = x.RunFrame(); len(f.Samples) != 3*(525-lines) || x.Tick != 0 {
				t.Errorf("%s: %d samples, Tick %d behind the next frame", what, len(f.Samples), x.Tick)
			}
		}
	}
}

// TestExample: the example of the chapter.
func TestExample(t *testing.T) {
	x := zeros(t)
	f := x.RunFrame()
	if len(f.Lines) != 1 || len(f.Lines[0]) != 8 || len(f.Samples) != 786 || x.Tick != 0 {
		t.Errorf("%d lines, %d samples, Tick %d", len(f.Lines), len(f.Samples), x.Tick)
	}
	for _, s := range f.Samples {
		if s != [2]int{} {
			t.Fatalf("a sample is %v", s)
		}
	}
	if x.Bus.Status != bus.Blank || x.Bus.Irq.Lines != 0 {
		t.Errorf("Status %d, Lines %d", x.Bus.Status, x.Bus.Irq.Lines)
	}
}

// TestParts: P26.5, so many ticks at once, or in parts, are alike; one by one too.
func TestParts(t *testing.T) {
	for k, p := range programs() {
		first := p.console(t)
		first.Run(200000 + 7777*k)
		for _, ticks := range []int{1, 2, 455, 1365, 60000, 500000} {
			whole, parts, single := twin(first), twin(first), twin(first)
			what := fmt.Sprint(p.name, ", ", ticks)
			told := whole.Run(ticks)
			r := rand.New(rand.NewPCG(uint64(ticks), 5))
			var some, ones Frame
			for left := ticks; left > 0; {
				n := 1 + r.IntN(left)
				some = behind(some, parts.Run(n))
				left -= n
			}
			expectFrame(t, some, told, what)
			expect(t, parts, whole, what)
			if ticks > 60000 && k > 0 {
				continue // it is long
			}
			for range ticks {
				ones = behind(ones, single.Run(1))
			}
			expectFrame(t, ones, told, what)
			expect(t, single, whole, what)
		}
	}
}

// behind puts what was told later behind what was told before.
func behind(f, later Frame) Frame {
	return Frame{Lines: append(f.Lines, later.Lines...), Samples: append(f.Samples, later.Samples...)}
}

// TestFrames: P26.5, of each frame as many lines as are shown, of the Width, of colours from 0 to 511, and three samples for each of its lines.
func TestFrames(t *testing.T) {
	seen := map[int]bool{}
	all := programs()
	for seed := range uint64(6) {
		all = append(all, anything(100+seed))
	}
	for _, p := range all {
		x := p.console(t)
		for k := range 8 {
			f := x.RunFrame()
			g := x.Geometry
			if x.Tick != 0 || len(f.Lines) != g.Bottom-g.Top || len(f.Lines) > 263 || len(f.Samples) != 3*g.Lines {
				t.Fatalf("%s, frame %d: %d lines, %d samples of %v", p.name, k, len(f.Lines), len(f.Samples), g)
			}
			for _, colours := range f.Lines {
				if len(colours) != g.Width || len(colours) < 8 || len(colours) > 512 || slices.Min(colours) < 0 || slices.Max(colours) > 511 {
					t.Fatalf("%s, frame %d: a line of %d colours, from %d to %d", p.name, k, len(colours), slices.Min(colours), slices.Max(colours))
				}
			}
			seen[len(f.Lines)], seen[1000+g.Width], seen[2000+g.Lines] = true, true, true
		}
	}
	for _, n := range []int{0, 1, 240, 260, 1008, 1256, 1512, 2262, 2263} {
		if !seen[n] {
			t.Errorf("%d was not tried", n)
		}
	}
}

// TestStaysValid: P26.5, what New made is Valid, and stays so, whatever is done with it.
func TestStaysValid(t *testing.T) {
	for seed := range uint64(8) {
		for k, x := range []*Console{anything(200 + seed).console(t), made(t, chance(t, 200+seed))} {
			r := rand.New(rand.NewPCG(seed, uint64(k)))
			for i := range 30 {
				switch r.IntN(5) {
				case 0:
					x.Reset()
				case 1:
					n := int(r.Uint64())
					x.Press([5]pad.Pad{{Keys: n}, {Keys: -n, Six: true}, {Keys: n / 3}, {}, {Keys: math.MinInt}})
				case 2:
					x.RunFrame()
				default:
					x.Run(1 + r.IntN(100000))
				}
				if !Valid(x) {
					t.Fatalf("seed %d, console %d, call %d: it is not Valid", seed, k, i)
				}
			}
		}
	}
}

// TestNone: P26.5 and rule 1, nothing, and false, of nil and of consoles that no call made; nothing is done.
func TestNone(t *testing.T) {
	for k, x := range none(t) {
		before := imageOf(x)
		expectNothing(t, x.Run(1000), fmt.Sprint("console ", k))
		expectNothing(t, x.RunFrame(), fmt.Sprint("console ", k))
		x.Press(keys(k + 1))
		x.Reset()
		if Valid(x) {
			t.Errorf("console %d is Valid", k)
		}
		if imageOf(x) != before {
			t.Errorf("console %d is changed", k)
		}
	}
}

// TestOwnMemory: rule 4, what is told is new memory: no list of it has room in common with another, or with what is told later.
func TestOwnMemory(t *testing.T) {
	x := busy().console(t)
	for range 3 {
		x.RunFrame()
	}
	y := twin(x)
	f, g := x.RunFrame(), y.RunFrame()
	for k := range f.Lines {
		spill(f.Lines[k])
		if k+1 < len(f.Lines) && !slices.Equal(f.Lines[k+1], g.Lines[k+1]) {
			t.Fatalf("line %d is changed by the one ahead of it", k+1)
		}
	}
	spill(f.Lines)
	spill(f.Samples)
	expect(t, x, y, "behind a change of what was told")
	for k := range 3 {
		expectFrame(t, x.RunFrame(), y.RunFrame(), fmt.Sprint("frame ", k))
	}
}

// spill writes to all of a list's memory, its spare room too.
func spill[T any](list []T) {
	var zero T
	room := list[:cap(list)]
	for k := range room {
		room[k] = zero
	}
}

// TestAlike: rule 5, the same is told each time.
func TestAlike(t *testing.T) {
	for _, p := range programs() {
		c := p.load(t, 1)
		x, y := made(t, c), made(t, c)
		for k := range 4 {
			expectFrame(t, x.RunFrame(), y.RunFrame(), fmt.Sprint(p.name, ", frame ", k))
		}
		expect(t, x, y, p.name)
	}
}

// TestSound: P26.2, what is told is what the sound tells, sample by sample, where nobody writes to it.
func TestSound(t *testing.T) {
	x := rich(t)
	want, p := psg.Samples(x.Bus.Psg, 2000)
	first := x.Tick / 455
	f := x.Run(2000*455 - (x.Tick - first*455))
	if !slices.Equal(f.Samples, want) || x.Bus.Psg != p {
		t.Errorf("%d samples are others than the %d that must be", len(f.Samples), len(want))
	}
	heard := false
	for _, s := range f.Samples {
		heard = heard || s != f.Samples[0]
	}
	if !heard {
		t.Error("all samples are the same")
	}
}

// TestResetKeeps: P26.1, behind Reset the frame goes on where it is, and so do the timer and the sound.
func TestResetKeeps(t *testing.T) {
	x := rich(t)
	x.Wait = 3
	tick, p, clock := x.Tick, x.Bus.Psg, x.Bus.Timer
	x.Reset()
	f := x.Run(455)
	want, _ := psg.Samples(p, 1)
	after, _ := timer.Advance(clock, 455)
	if x.Tick != tick+455 || len(f.Samples) != 1 || f.Samples[0] != want[0] || x.Bus.Timer != after {
		t.Errorf("Tick %d, samples %v, timer %v", x.Tick, f.Samples, x.Bus.Timer)
	}
}
