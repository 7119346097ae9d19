package psg

import (
	"math"
	"testing"

	"phosphor/noise"
	"phosphor/volume"
)

const (
	accEnd  = 16777216 // one more than the greatest Acc
	randEnd = 262144   // one more than the greatest Rand
)

// What follows, up to wantSamples, is the chapter said a second time, plainly: by division and by counting, one turn at a time.

func has(n, bit int) bool { return n/bit%2 == 1 }

func modulo(n, m int) int { return (n%m + m) % m }

// wantLfo is m, or 0 without the LFO.
func wantLfo(p *Psg) int {
	if has(p.LfoControl, 128) {
		return 0
	}
	return p.LfoControl % 4
}

func wantNoise(p *Psg, k int) bool { return (k == 4 || k == 5) && has(p.C[k].Noise, 128) }

func wantPeriod(p *Psg, k int) int {
	if wantNoise(p, k) {
		return 6 * noise.Period(p.C[k].Noise)
	}
	m := wantLfo(p)
	freq := p.C[k].Freq
	if k == 0 && m != 0 {
		times := [4]int{0, 1, 4, 16}[m]
		freq = modulo(freq+(p.C[1].Wave[p.C[1].Index]-16)*times, 4096)
	}
	if freq == 0 {
		freq = 4096
	}
	if k == 1 && m != 0 && p.LfoFreq == 0 {
		return 6 * freq * 256
	}
	if k == 1 && m != 0 {
		return 6 * freq * p.LfoFreq
	}
	return 6 * freq
}

func wantGoOn(p *Psg) {
	for _, k := range [6]int{1, 0, 2, 3, 4, 5} {
		c := &p.C[k]
		if !has(c.Control, 128) || has(c.Control, 64) {
			continue
		}
		long := wantPeriod(p, k)
		for c.Acc += 455; c.Acc >= long; c.Acc -= long {
			if wantNoise(p, k) {
				c.Rand = noise.Step(c.Rand)
			} else {
				c.Index = (c.Index + 1) % 32
			}
		}
	}
}

func wantValue(p *Psg, k int) int {
	c := &p.C[k]
	if has(c.Control, 64) {
		return c.Dda
	}
	if wantNoise(p, k) {
		return noise.Out(c.Rand)
	}
	return c.Wave[c.Index]
}

func wantSamples(p Psg, n int) ([][2]int, Psg) {
	var out [][2]int
	for range n {
		wantGoOn(&p)
		left, right := 0, 0
		for k, c := range p.C {
			if !has(c.Control, 128) || k == 1 && wantLfo(&p) != 0 {
				continue
			}
			far := wantValue(&p, k) - 16
			left += far * volume.Gain(c.Control%32, c.Balance/16, p.Main/16)
			right += far * volume.Gain(c.Control%32, c.Balance%16, p.Main%16)
		}
		out = append(out, [2]int{left, right})
	}
	return out, p
}

// wantWrite is P22.2, of a sound that is Valid.
func wantWrite(p Psg, at, b int) Psg {
	b = modulo(b, 256)
	if at == 0 {
		p.Sel = b % 8
	}
	if at == 1 {
		p.Main = b
	}
	if at == 8 {
		p.LfoFreq = b
	}
	if at == 9 {
		p.LfoControl = b
	}
	if at < 2 || at > 7 || p.Sel == 6 || p.Sel == 7 {
		return p
	}
	c := p.C[p.Sel]
	if at == 2 {
		c.Freq = c.Freq/256*256 + b
	}
	if at == 3 {
		c.Freq = b%16*256 + c.Freq%256
	}
	if at == 4 {
		c.Control = b
		if b >= 64 && b < 128 {
			c.Index = 0
		}
	}
	if at == 5 {
		c.Balance = b
	}
	if at == 6 && has(c.Control, 64) {
		c.Dda = b % 32
	} else if at == 6 {
		c.Wave[c.Index] = b % 32
		c.Index = (c.Index + 1) % 32
	}
	if at == 7 && (p.Sel == 4 || p.Sel == 5) {
		c.Noise = b
	}
	p.C[p.Sel] = c
	return p
}

// dice tells numbers that look thrown, the same ones each time.
type dice uint32

func (d *dice) below(n int) int {
	*d = *d*1664525 + 1013904223
	return int(*d>>8) % n
}

// thrown is a sound that is Valid, with all its fields somewhere within their bounds.
func thrown(seed int) Psg {
	d := dice(seed)
	p := Psg{Sel: d.below(8), Main: d.below(256), LfoFreq: d.below(256), LfoControl: d.below(256)}
	for k := range p.C {
		c := &p.C[k]
		c.Freq, c.Control, c.Balance, c.Noise = d.below(4096), d.below(256), d.below(256), d.below(256)
		c.Index, c.Acc, c.Rand, c.Dda = d.below(32), d.below(accEnd), 1+d.below(randEnd-1), d.below(32)
		for i := range c.Wave {
			c.Wave[i] = d.below(32)
		}
	}
	return p
}

// loud is a thrown sound whose channels are all on, waves or noise, and heard well.
func loud(seed int) Psg {
	p := thrown(seed)
	p.Main = 255
	for k := range p.C {
		p.C[k].Control = 0x9f - k
		p.C[k].Balance = 255 - 16*k - (5 - k)
	}
	return p
}

// wave is one of which no two numbers beside each other are alike, and each is there once.
func wave() (w [32]int) {
	for i := range w {
		w[i] = (i*13 + 5) % 32
	}
	return w
}

// alone is a sound with that channel only, as loud as Main lets it be.
func alone(k int, c Channel) Psg {
	p := Fresh()
	p.Main = 255
	p.C[k] = c
	return p
}

func see(t *testing.T, name string, p Psg, n int) {
	t.Helper()
	got, behind := Samples(p, n)
	want, wantBehind := wantSamples(p, n)
	if len(got) != len(want) {
		t.Fatalf("%s: %d samples, want %d", name, len(got), len(want))
	}
	for i := range want {
		if got[i] != want[i] {
			t.Fatalf("%s: sample %d is %v, want %v", name, i, got[i], want[i])
		}
	}
	if behind != wantBehind {
		t.Fatalf("%s: behind %d samples: %v, want %v", name, n, behind, wantBehind)
	}
	if !Valid(behind) {
		t.Fatalf("%s: behind %d samples it is not Valid: %v", name, n, behind)
	}
}

// field is one of a sound, with its bounds.
type field struct {
	name        string
	n           *int
	least, most int
}

// fields are all of a sound, each number of the waves among them.
func fields(p *Psg) []field {
	all := []field{{"Sel", &p.Sel, 0, 7}, {"Main", &p.Main, 0, 255}, {"LfoFreq", &p.LfoFreq, 0, 255}, {"LfoControl", &p.LfoControl, 0, 255}}
	for k := range p.C {
		c := &p.C[k]
		all = append(all,
			field{"Freq", &c.Freq, 0, 4095}, field{"Control", &c.Control, 0, 255}, field{"Balance", &c.Balance, 0, 255},
			field{"Noise", &c.Noise, 0, 255}, field{"Index", &c.Index, 0, 31}, field{"Acc", &c.Acc, 0, accEnd - 1},
			field{"Rand", &c.Rand, 1, randEnd - 1}, field{"Dda", &c.Dda, 0, 31})
		for i := range c.Wave {
			all = append(all, field{"Wave", &c.Wave[i], 0, 31})
		}
	}
	return all
}

// wrong are sounds that are not Valid, each by one field.
func wrong() []Psg {
	var all []Psg
	for i := range fields(&Psg{}) {
		for _, below := range [2]bool{true, false} {
			p := thrown(i)
			f := fields(&p)[i]
			*f.n = f.most + 1
			if below {
				*f.n = f.least - 1
			}
			all = append(all, p)
		}
	}
	return all
}

// TestFresh: P22.1, field by field, and the chapter's example.
func TestFresh(t *testing.T) {
	p := Fresh()
	if !Valid(p) {
		t.Error("it is not Valid")
	}
	all := fields(&p)
	if len(all) != 4+6*40 {
		t.Fatal("fields:", len(all))
	}
	for i, f := range all {
		want := 0
		if f.name == "Rand" {
			want = 1
		}
		if *f.n != want {
			t.Errorf("field %d, %s, is %d, want %d", i, f.name, *f.n, want)
		}
	}
	samples, q := Samples(p, 1000)
	if len(samples) != 1000 || q != p {
		t.Error("behind samples:", len(samples), q)
	}
	for i, s := range samples {
		if s != [2]int{} {
			t.Fatalf("sample %d is %v", i, s)
		}
	}
}

// TestValid: P22.1 of each field at its ends, beside them, and at the ends of int.
func TestValid(t *testing.T) {
	if Valid(Psg{}) {
		t.Error("a Rand of 0 is Valid")
	}
	for _, p := range []Psg{Fresh(), thrown(1), thrown(2)} {
		if !Valid(p) {
			t.Fatal("it is not Valid:", p)
		}
		for i, f := range fields(&p) {
			was := *f.n
			for _, n := range []int{f.least, f.least + 1, f.most - 1, f.most, f.least - 1, f.most + 1, math.MinInt, math.MaxInt, f.most + 1<<32} {
				*f.n = n
				if got, want := Valid(p), n >= f.least && n <= f.most; got != want {
					t.Errorf("field %d, %s, of %d: %v, want %v", i, f.name, n, got, want)
				}
			}
			*f.n = was
		}
	}
}

// TestWrite: P22.2 at each place, with each channel chosen and each byte, and with numbers that are none.
func TestWrite(t *testing.T) {
	bytes := []int{256, 257, -1, -128, math.MinInt, math.MinInt + 77, math.MaxInt, math.MaxInt - 200}
	for b := range 256 {
		bytes = append(bytes, b)
	}
	for sel := range 8 {
		for seed := range 4 {
			p := thrown(10*sel + seed)
			p.Sel = sel
			if sel < 6 {
				p.C[sel].Control = 64*seed + seed // each way of the bits 64 and 128
			}
			for _, b := range bytes {
				for at := range 10 {
					seeWrite(t, p, at, b, wantWrite(p, at, b))
				}
				for _, at := range []int{-1, -8, 10, 11, 16, 256, math.MinInt, math.MinInt + 2, math.MaxInt, 1<<32 + 1} {
					seeWrite(t, p, at, b, p)
				}
			}
		}
	}
}

func seeWrite(t *testing.T, p Psg, at, b int, want Psg) {
	t.Helper()
	was := p
	got := Write(p, at, b)
	if got != want {
		t.Fatalf("Write of %v at %d of %d: %v, want %v", was, at, b, got, want)
	}
	if !Valid(got) {
		t.Fatalf("Write of %v at %d of %d: not Valid: %v", was, at, b, got)
	}
}

// TestWriteWrong: P22.2 of sounds that are not Valid.
func TestWriteWrong(t *testing.T) {
	for _, p := range append(wrong(), Psg{}) {
		for _, at := range []int{math.MinInt, -1, 0, 1, 2, 3, 4, 5, 6, 7, 8, 9, 10, math.MaxInt} {
			for _, b := range []int{0, 0x5a, 255, 256, -1} {
				if got := Write(p, at, b); got != p {
					t.Fatalf("Write of %v at %d of %d: %v", p, at, b, got)
				}
			}
		}
	}
}

// TestWriteOfAll: P22.2, written out.
func TestWriteOfAll(t *testing.T) {
	p := Fresh()
	for _, w := range [][2]int{{0, 0xfd}, {1, 0x1fe}, {8, -1}, {9, 0x83}} {
		p = Write(p, w[0], w[1])
	}
	want := Fresh()
	want.Sel, want.Main, want.LfoFreq, want.LfoControl = 5, 0xfe, 255, 0x83
	if p != want {
		t.Error(p)
	}
	for _, w := range [][2]int{{2, 0x34}, {3, 0xf2}, {5, 0xa5}, {7, 0x9f}} {
		p = Write(p, w[0], w[1])
	}
	want.C[5].Freq, want.C[5].Balance, want.C[5].Noise = 0x234, 0xa5, 0x9f
	if p != want {
		t.Error(p)
	}
	p = Write(p, 2, 0xff)
	want.C[5].Freq = 0x2ff
	if p != want {
		t.Error(p)
	}
	p = Write(p, 0, 6) // there is no such channel
	want.Sel = 6
	for at := 2; at < 8; at++ {
		if p = Write(p, at, 0x7f); p != want {
			t.Error(at, p)
		}
	}
}

// TestWriteControl: P22.2 at 4: when Index is 0.
func TestWriteControl(t *testing.T) {
	for k := range 6 {
		for _, was := range [4]int{0, 64, 128, 192} {
			for _, c := range []struct{ b, index int }{{0, 29}, {63, 29}, {64, 0}, {127, 0}, {128, 29}, {191, 29}, {192, 29}, {255, 29}, {256 + 64, 0}, {-1, 29}, {-129, 0}} {
				p := thrown(k)
				p.Sel, p.C[k].Control, p.C[k].Index = k, was, 29
				want := p
				want.C[k].Control, want.C[k].Index = modulo(c.b, 256), c.index
				seeWrite(t, p, 4, c.b, want)
			}
		}
	}
}

// TestWriteValue: P22.2 at 6: where a value goes, also over the end of the wave.
func TestWriteValue(t *testing.T) {
	for k := range 6 {
		for _, control := range [4]int{0, 64, 128, 192} {
			p := Fresh()
			p.Sel, p.C[k].Control, p.C[k].Index = k, control, 30
			want := p
			for i, b := range []int{7, 0xff, 0x62, 256 + 9} {
				p = Write(p, 6, b)
				if has(control, 64) {
					want.C[k].Dda = [4]int{7, 31, 2, 9}[i]
				} else {
					want.C[k].Wave[[4]int{30, 31, 0, 1}[i]] = [4]int{7, 31, 2, 9}[i]
					want.C[k].Index = [4]int{31, 0, 1, 2}[i]
				}
				if p != want {
					t.Fatalf("channel %d, Control %d, value %d: %v, want %v", k, control, i, p, want)
				}
			}
		}
	}
}

// TestWriteNoise: P22.2 at 7: which channels have it.
func TestWriteNoise(t *testing.T) {
	for sel := range 8 {
		for _, was := range []int{0, 0x55} {
			p := Fresh()
			p.Sel = sel
			for k := range p.C {
				p.C[k].Noise = was
			}
			want := p
			if sel == 4 || sel == 5 {
				want.C[sel].Noise = 0x9e
			}
			seeWrite(t, p, 7, 0x9e, want)
		}
	}
}

// TestSamplesNone: P22.3 of sounds that are not Valid, and of numbers of samples that may not be.
func TestSamplesNone(t *testing.T) {
	for _, p := range append(wrong(), Psg{}) {
		for _, n := range []int{1, 3, 0} {
			if l, q := Samples(p, n); len(l) != 0 || q != p {
				t.Fatalf("Samples of %v, %d: %v, %v", p, n, l, q)
			}
		}
	}
	p := loud(3)
	for _, n := range []int{0, -1, -65536, 65537, 131072, math.MinInt, math.MinInt + 1, math.MaxInt, 1<<32 + 1} {
		if l, q := Samples(p, n); len(l) != 0 || q != p {
			t.Errorf("Samples, %d: %d, %v", n, len(l), q)
		}
	}
}

// TestSamplesMany: P22.3 with the least and the most samples.
func TestSamplesMany(t *testing.T) {
	for _, n := range []int{1, 2, 65535, 65536} {
		see(t, "many", loud(n), n)
	}
}

// TestSamplesWritten: P22.3, worked out by hand.
func TestSamplesWritten(t *testing.T) {
	w := [32]int{31, 0, 20}
	p := alone(3, Channel{Freq: 100, Control: 0x9f, Balance: 0xf0, Wave: w, Rand: 1})
	// 455 of 600 ticks; 910: one turn, and 310 are left; 765: another, and 165.
	seeWritten(t, p, [][2]int{{15 * 1024, 15 * 6}, {-16 * 1024, -16 * 6}, {4 * 1024, 4 * 6}}, 165)
	p.C[3].Control = 0xdf
	p.C[3].Dda = 18
	seeWritten(t, p, [][2]int{{2048, 12}, {2048, 12}}, 0)
	p.C[3].Control = 0x5f
	seeWritten(t, p, [][2]int{{0, 0}, {0, 0}}, 0)
	p.C[3].Control = 0x1f
	seeWritten(t, p, [][2]int{{0, 0}, {0, 0}}, 0)

	// The fastest noise takes 384 ticks: 1 steps to 2^17, whose lowest bit is 0, and 71 ticks are left.
	p = alone(5, Channel{Freq: 1, Control: 0x9f, Balance: 0xff, Noise: 0x9f, Rand: 1})
	seeWritten(t, p, [][2]int{{-16 * 1024, -16 * 1024}}, 71)
	p.C[5].Rand = 2 // its next one is odd
	seeWritten(t, p, [][2]int{{15 * 1024, 15 * 1024}}, 71)
}

// seeWritten holds samples of a sound against those that are written out, and the Acc of its channels together.
func seeWritten(t *testing.T, p Psg, want [][2]int, acc int) {
	t.Helper()
	got, q := Samples(p, len(want))
	for i := range want {
		if len(got) != len(want) || got[i] != want[i] {
			t.Fatalf("samples are %v, want %v", got, want)
		}
	}
	sum := 0
	for _, c := range q.C {
		sum += c.Acc
	}
	if sum != acc {
		t.Errorf("Acc is %d, want %d", sum, acc)
	}
}

// accs are numbers of ticks: both ends, and those with which a period goes into them just so, or one short of it.
func accs(period int) []int {
	all := []int{0, 1, 144, 145, 454, accEnd - 456, accEnd - 2, accEnd - 1}
	for _, n := range []int{period - 456, period - 455, 2*period - 456, 2*period - 455, 33*period - 455} {
		if n >= 0 && n < accEnd {
			all = append(all, n)
		}
	}
	return all
}

// TestAlone: P22.3 of each channel alone, with frequencies and ticks of all sorts.
func TestAlone(t *testing.T) {
	for k := range 6 {
		for _, freq := range []int{0, 1, 2, 3, 37, 75, 76, 100, 151, 152, 1000, 2048, 4094, 4095} {
			period := 6 * freq
			if freq == 0 {
				period = 24576
			}
			for _, acc := range accs(period) {
				p := alone(k, Channel{Freq: freq, Control: 0x9f, Balance: 0xfe, Wave: wave(), Index: 17, Acc: acc, Rand: 9, Dda: 3})
				see(t, "alone", p, 70)
			}
		}
	}
}

// TestLongWait: P22.3 of the slowest channel, through a whole wave.
func TestLongWait(t *testing.T) {
	for _, freq := range []int{0, 4095} {
		see(t, "slow", alone(2, Channel{Freq: freq, Control: 0x9f, Balance: 0xfe, Wave: wave(), Rand: 1}), 2000)
	}
	_, q := Samples(alone(2, Channel{Control: 0x9f, Rand: 1}), 55) // 25025 ticks, of 24576
	if q.C[2].Index != 1 || q.C[2].Acc != 449 {
		t.Error(q.C[2])
	}
}

// TestControl: P22.3 with the bits 128 and 64 in all ways, and each volume, of waves and of noise.
func TestControl(t *testing.T) {
	for k := range 6 {
		for control := range 256 {
			for _, register := range []int{0x1f, 0x9f} {
				p := alone(k, Channel{Freq: 50, Control: control, Balance: 0xdf, Noise: register, Wave: wave(), Index: 30, Acc: 300, Rand: 0x2345, Dda: 27})
				see(t, "Control", p, 8)
			}
		}
	}
}

// TestNoise: P22.3 of noise at each number; the channels 0 to 3 have none, whatever their Noise.
func TestNoise(t *testing.T) {
	for k := range 6 {
		for register := range 256 {
			for _, acc := range []int{0, 20000, accEnd - 1} {
				p := alone(k, Channel{Freq: 300, Control: 0x9f, Balance: 0xef, Noise: register, Wave: wave(), Acc: acc, Rand: 0x2aaaa})
				see(t, "Noise", p, 60)
			}
		}
	}
	p := alone(3, Channel{Freq: 10, Control: 0x9f, Noise: 0xff, Rand: 5})
	if _, q := Samples(p, 10); q.C[3].Rand != 5 || q.C[3].Index == 0 {
		t.Error("channel 3 is noise:", q.C[3])
	}
	p = alone(4, p.C[3])
	if _, q := Samples(p, 10); q.C[4].Rand == 5 || q.C[4].Index != 0 {
		t.Error("channel 4 is no noise:", q.C[4])
	}
}

// swing is a sound of the channels 0 and 1 alone, whose LfoControl is that.
func swing(control, lfoFreq, freq0, freq1 int) Psg {
	p := Fresh()
	p.Main, p.LfoControl, p.LfoFreq = 255, control, lfoFreq
	p.C[0] = Channel{Freq: freq0, Control: 0x9f, Balance: 0xfc, Wave: wave(), Index: 3, Rand: 1}
	p.C[1] = Channel{Freq: freq1, Control: 0x9f, Balance: 0xff, Wave: wave(), Index: 6, Rand: 1, Dda: 30}
	return p
}

// TestLfo: P22.3 with the LFO of each LfoControl, its speed, and the channel 1 in each way.
func TestLfo(t *testing.T) {
	for control := range 256 {
		for _, lfoFreq := range []int{0, 1, 2, 255} {
			for _, freq0 := range []int{0, 1, 15, 16, 60, 240, 500, 4095} {
				see(t, "LFO", swing(control, lfoFreq, freq0, 20), 40)
			}
		}
	}
	for _, control := range []int{0, 1, 2, 3, 129, 131} {
		for _, lfoFreq := range []int{0, 1, 255} {
			for _, freq1 := range []int{0, 1, 2, 4095} {
				for _, acc := range []int{0, 6*256*4096 - 456, 6*256*4096 - 455, accEnd - 1} {
					p := swing(control, lfoFreq, 300, freq1)
					p.C[1].Acc = acc
					see(t, "LFO's speed", p, 50)
				}
			}
		}
		for _, way := range []int{0x1f, 0x5f, 0x9f, 0xdf} {
			p := swing(control, 3, 700, 30)
			p.C[1].Control = way
			see(t, "LFO's channel", p, 50)
			p.C[0].Control = way
			see(t, "LFO's channels", p, 50)
		}
	}
}

// TestLfoFrequencies: P22.3 with frequencies of the channel 0 that are brought below 0, to 0, and above 4095, written out.
func TestLfoFrequencies(t *testing.T) {
	for _, c := range []struct{ m, freq, value, is int }{
		{1, 100, 16, 100}, {1, 100, 20, 104}, {1, 100, 10, 94},
		{2, 100, 20, 116}, {2, 100, 10, 76}, {3, 100, 20, 164}, {3, 100, 10, 4},
		{1, 16, 0, 4096}, {2, 64, 0, 4096}, {3, 256, 0, 4096}, {1, 0, 16, 4096}, {1, 4095, 17, 4096}, {2, 4092, 17, 4096}, {3, 4080, 17, 4096},
		{1, 0, 0, 4080}, {1, 3, 10, 4093}, {2, 0, 15, 4092}, {3, 0, 0, 3840}, {3, 255, 0, 4095},
		{1, 4095, 31, 14}, {2, 4095, 31, 59}, {3, 4095, 31, 239}, {3, 4081, 17, 1}, {1, 4094, 17, 4095},
		{0, 100, 20, 100}, {0, 0, 31, 4096},
	} {
		for _, control := range []int{c.m, c.m + 4, c.m + 124} {
			p := swing(control, 0, c.freq, 0) // channel 1 waits
			p.C[1].Wave[6] = c.value
			p.C[0].Acc = accEnd - 1
			see(t, "swung", p, 40)
			_, q := Samples(p, 1)
			if want := (accEnd - 1 + 455) % (6 * c.is); q.C[0].Acc != want {
				t.Errorf("LfoControl %d, Freq %d, Wave %d: Acc is %d, want %d", control, c.freq, c.value, q.C[0].Acc, want)
			}
			p.LfoControl += 128 // off
			_, q = Samples(p, 1)
			freq := c.freq
			if freq == 0 {
				freq = 4096
			}
			if want := (accEnd - 1 + 455) % (6 * freq); q.C[0].Acc != want {
				t.Errorf("LfoControl %d, Freq %d: Acc is %d, want %d", p.LfoControl, c.freq, q.C[0].Acc, want)
			}
		}
	}
}

// TestLfoAhead: P22.3: the channel 1 goes on ahead of the channel 0, and is not heard; without the LFO it is.
func TestLfoAhead(t *testing.T) {
	p := swing(1, 1, 100, 70) // a turn of channel 1 takes 420 ticks
	p.C[1].Wave[6], p.C[1].Wave[7] = 0, 31
	p.C[0].Acc = 600
	p.C[0].Control = 0x80 // too low to be heard
	l, q := Samples(p, 1)
	if q.C[1].Index != 7 || q.C[1].Acc != 35 || q.C[0].Acc != 1055-6*115 || l[0] != [2]int{} {
		t.Error(l, q.C[0].Acc, q.C[1].Index, q.C[1].Acc)
	}
	p.LfoControl = 129
	l, q = Samples(p, 1)
	if q.C[1].Index != 7 || q.C[1].Acc != 35 || q.C[0].Acc != 1055-6*100 || l[0] != [2]int{15 * 1024, 15 * 1024} {
		t.Error(l, q.C[0].Acc, q.C[1].Index, q.C[1].Acc)
	}
	p.C[1].Control, p.LfoControl = 0xdf, 3 // not even where its value is told directly
	if l, _ = Samples(p, 1); l[0] != [2]int{} {
		t.Error(l)
	}
	p.LfoControl = 0
	if l, _ = Samples(p, 1); l[0] != [2]int{14 * 1024, 14 * 1024} {
		t.Error(l)
	}
}

// TestBalances: P22.3 with each balance of a channel and of Main, alone and together.
func TestBalances(t *testing.T) {
	for balance := range 256 {
		for main := range 256 {
			p := alone(balance%6, Channel{Control: 0xdf, Balance: balance, Dda: 31, Rand: 1})
			p.Main = main
			l, q := Samples(p, 1)
			left := 15 * volume.Gain(31, balance/16, main/16)
			right := 15 * volume.Gain(31, balance%16, main%16)
			if len(l) != 1 || l[0] != [2]int{left, right} || q != p {
				t.Fatalf("Balance %d, Main %d: %v, want %d, %d", balance, main, l, left, right)
			}
		}
	}
	p := loud(5)
	for k := range p.C {
		p.C[k].Balance = 0xff
	}
	for k := range p.C {
		for balance := range 256 {
			one, all := p, p
			one.C[k].Balance = balance
			for i := range all.C {
				all.C[i].Balance = modulo(balance+37*i*k, 256)
			}
			all.Main = 255 - balance/2
			see(t, "one balance", one, 3)
			see(t, "all balances", all, 3)
		}
	}
}

// TestThrown: P22.3 and P22.4 of sounds of all sorts, sample by sample.
func TestThrown(t *testing.T) {
	for seed := range 600 {
		see(t, "thrown", thrown(seed), 100)
		see(t, "loud", loud(seed), 100)
	}
}

// TestTwoParts: P22.4: at once, and in two parts, with what is behind them.
func TestTwoParts(t *testing.T) {
	for seed := range 60 {
		p := thrown(seed)
		if seed%2 == 0 {
			p = loud(seed)
		}
		for _, n := range [][2]int{{1, 1}, {1, 99}, {99, 1}, {37, 263}, {400, 335}} {
			once, behind := Samples(p, n[0]+n[1])
			first, between := Samples(p, n[0])
			second, last := Samples(between, n[1])
			both := append(first, second...)
			if len(once) != len(both) || behind != last {
				t.Fatalf("sound %d in parts of %v: behind them %v, want %v", seed, n, last, behind)
			}
			for i := range once {
				if once[i] != both[i] {
					t.Fatalf("sound %d in parts of %v: sample %d is %v, want %v", seed, n, i, both[i], once[i])
				}
			}
		}
	}
}

// TestBeyond: P22.4: nothing is louder than six channels that are as loud as they can be.
func TestBeyond(t *testing.T) {
	const most = 6 * 16 * 1024
	for _, c := range []struct{ dda, want int }{{0, -98304}, {31, 92160}, {16, 0}} {
		p := Fresh()
		p.Main = 255
		for k := range p.C {
			p.C[k].Control, p.C[k].Balance, p.C[k].Dda = 0xff, 0xff, c.dda
		}
		if l, _ := Samples(p, 2); l[0] != [2]int{c.want, c.want} || l[1] != l[0] {
			t.Error(c, l)
		}
		for k := range p.C { // as waves, and as noise
			p.C[k].Control, p.C[k].Noise = 0x9f, 0x80
			for i := range p.C[k].Wave {
				p.C[k].Wave[i] = c.dda
			}
		}
		seeWithin(t, p, most)
	}
	for seed := range 200 {
		seeWithin(t, thrown(seed), most)
		seeWithin(t, loud(seed), most)
	}
}

func seeWithin(t *testing.T, p Psg, most int) {
	t.Helper()
	l, _ := Samples(p, 300)
	if len(l) != 300 {
		t.Fatal("samples:", len(l))
	}
	for i, s := range l {
		for _, n := range s {
			if n > most || n < -most {
				t.Fatalf("sample %d is %v", i, s)
			}
		}
	}
}

// TestStaysValid: P22.4, of writes and samples in turn, from Fresh on.
func TestStaysValid(t *testing.T) {
	d := dice(7)
	p := Fresh()
	for i := range 20000 {
		at, b := d.below(12)-1, d.below(600)-200
		q := Write(p, at, b)
		if at >= 0 && at <= 9 && q != wantWrite(p, at, b) {
			t.Fatalf("write %d: %v", i, q)
		}
		if p = q; !Valid(p) {
			t.Fatalf("write %d: it is not Valid: %v", i, p)
		}
		if i%10 == 0 {
			n := 1 + d.below(30)
			see(t, "in turn", p, n)
			_, p = Samples(p, n)
		}
	}
}

// TestNothingShared: what is handed out is new memory each time.
func TestNothingShared(t *testing.T) {
	p := loud(11)
	a, _ := Samples(p, 5)
	was := a[2]
	b, _ := Samples(p, 5)
	b[2] = [2]int{1 << 40, 1 << 40}
	if a[2] != was {
		t.Error("two lists share memory")
	}
}
