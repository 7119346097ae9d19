package vram

import (
	"math"
	"slices"
	"testing"
)

const (
	size = 32768
	all  = 65536
)

// values are bytes, words, places and steps at and beside the numbers that the chapter cuts at, below 0, and at both ends of int.
var values = []int{
	0, 1, 2, 32, 127, 128, 255, 256, 257, 511, 0x1234, 16384, 32766, 32767, 32768, 32769, 65534, 65535, 65536, 65537, 98303, 98304, 131071, 131072, 1 << 31, 1<<32 + 5,
	-1, -2, -255, -256, -257, -32767, -32768, -32769, -65535, -65536, -65537, -98304,
	math.MaxInt, math.MaxInt - 1, math.MaxInt - 32767, math.MaxInt - 32768, math.MaxInt - 65535, math.MaxInt - 65536,
	math.MinInt, math.MinInt + 1, math.MinInt + 32767, math.MinInt + 32768, math.MinInt + 65535, math.MinInt + 65536,
}

// noWords are numbers that are no words.
var noWords = []int{-1, -2, -65535, -65536, 65536, 65537, 131072, 1 << 32, math.MaxInt - 65535, math.MaxInt, math.MinInt, math.MinInt + 1}

// steps are how far a place goes on: the four that the console sets, none, and back by one.
var steps = []int{0, 1, 32, 64, 128, 32768, 65535}

// modulo is n modulo m, from 0 on: by division, where the package takes masks.
func modulo(n, m int) int { return (n%m + m) % m }

// sample has a word of its own at each place.
func sample() []int {
	words := make([]int, size)
	for k := range words {
		words[k] = (k*40503 + 4711) % all
	}
	return words
}

// model is what must be there, worked out place by place.
type model struct {
	words []int
	ports [5]int // write, read, step, low, buffer
}

func (m model) at(place int) int {
	if k := modulo(place, all); k < size {
		return m.words[k]
	}
	return 0
}

func (m *model) poke(place, w int) {
	if k := modulo(place, all); k < size {
		m.words[k] = modulo(w, all)
	}
}

func (m *model) setRead(place int) {
	m.ports[1] = modulo(place, all)
	m.ports[4] = m.at(place)
}

func (m *model) put(high bool, b int) {
	if !high {
		m.ports[3] = modulo(b, 256)
		return
	}
	m.poke(m.ports[0], m.ports[3]+256*modulo(b, 256))
	m.ports[0] = (m.ports[0] + m.ports[2]) % all
}

func (m *model) get(high bool) int {
	if !high {
		return m.ports[4] % 256
	}
	told := m.ports[4] / 256
	m.setRead(m.ports[1] + m.ports[2])
	return told
}

// portsOf tells Ports as Load takes them.
func portsOf(v *Vram) [5]int {
	write, read, step, low, buffer := v.Ports()
	return [5]int{write, read, step, low, buffer}
}

// seePorts holds the ports against what they must be; see the words at all places too.
func seePorts(t *testing.T, what string, given []int, v *Vram, want [5]int) {
	t.Helper()
	if got := portsOf(v); got != want {
		t.Fatalf("%s%v: ports %v, want %v", what, given, got, want)
	}
}

func see(t *testing.T, what string, given []int, v *Vram, want model) {
	t.Helper()
	seePorts(t, what, given, v, want.ports)
	for k := range all {
		if got := v.Word(k); got != want.at(k) {
			t.Fatalf("%s%v: word %d is %d, want %d", what, given, k, got, want.at(k))
		}
	}
}

// loaded is one of the sample's words with these ports, and the model of it.
func loaded(t *testing.T, ports [5]int) (*Vram, model) {
	t.Helper()
	v, ok := Load(sample(), ports)
	if v == nil || !ok {
		t.Fatalf("Load with %v: %v, %v", ports, v != nil, ok)
	}
	return v, model{sample(), ports}
}

// TestExample: the chapter's example.
func TestExample(t *testing.T) {
	v := New()
	v.SetWrite(5)
	v.Put(false, 0x34)
	v.Put(true, 0x12)
	if got := v.Word(5); got != 0x1234 {
		t.Errorf("word 5 is %x", got)
	}
}

// TestNew: P13.1, all is 0, but the step; and one is not the other.
func TestNew(t *testing.T) {
	v, other := New(), New()
	zeros := model{make([]int, size), [5]int{0, 0, 1, 0, 0}}
	see(t, "New", nil, v, zeros)
	v.Poke(7, 9)
	v.SetWrite(3)
	v.SetStep(5)
	v.Put(false, 8)
	see(t, "the other one", nil, other, zeros)
	see(t, "a later one", nil, New(), zeros)
}

// TestLoad: P13.1, the words and the ports are those that were told, also where the buffer is not the word at the read place.
func TestLoad(t *testing.T) {
	for _, ports := range [][5]int{{}, {1, 2, 3, 4, 5}, {65535, 65535, 65535, 255, 65535}, {32767, 32768, 0, 0, 1}, {0, 0, 1, 0, 0}} {
		v, want := loaded(t, ports)
		see(t, "Load", ports[:], v, want)
	}
	highest := slices.Repeat([]int{65535}, size)
	v, ok := Load(highest, [5]int{})
	if !ok {
		t.Fatal("words of 65535 are refused")
	}
	see(t, "Load of 65535", nil, v, model{highest, [5]int{}})
	if v, ok = Load(make([]int, size), [5]int{}); !ok {
		t.Fatal("words of 0 are refused")
	}
	see(t, "Load of 0", nil, v, model{make([]int, size), [5]int{}})
}

// refused sees that Load answers nil and false.
func refused(t *testing.T, what string, given int, words []int, ports [5]int) {
	t.Helper()
	if v, ok := Load(words, ports); v != nil || ok {
		t.Errorf("Load with %s %d: %v, %v", what, given, v != nil, ok)
	}
}

// TestLoadLength: P13.1, just Words words; what lies behind a list's length is none.
func TestLoadLength(t *testing.T) {
	refused(t, "nil", 0, nil, [5]int{})
	for _, n := range []int{0, 1, 2, size / 2, size - 2, size - 1, size + 1, size + 2, all - 1, all, 2 * all} {
		refused(t, "a length of", n, make([]int, n), [5]int{})
	}
	refused(t, "spare room behind", size-1, sample()[:size-1], [5]int{})
	long := append(sample(), -1, all, 77)
	v, ok := Load(long[:size], [5]int{2: 9})
	if !ok {
		t.Fatal("what lies behind the length is read")
	}
	see(t, "Load of a part", nil, v, model{sample(), [5]int{2: 9}})
}

// TestLoadWords: P13.1, a word at its edges, at the first place, at the last one and between.
func TestLoadWords(t *testing.T) {
	for _, k := range []int{0, 1, size / 2, size - 2, size - 1} {
		for _, w := range noWords {
			words := sample()
			words[k] = w
			refused(t, "a word of", w, words, [5]int{})
		}
		for _, w := range []int{0, 1, 255, 256, 32767, 32768, 65534, 65535} {
			words := sample()
			words[k] = w
			v, ok := Load(words, [5]int{})
			if !ok || v.Word(k) != w {
				t.Errorf("Load with %d at %d: %v, and there stands %d", w, k, ok, v.Word(k))
			}
		}
	}
}

// TestLoadPorts: P13.1, each port at its edges, by itself.
func TestLoadPorts(t *testing.T) {
	words := sample()
	for k := range 5 {
		bad, good := noWords, []int{0, 1, 254, 255, 256, 32767, 32768, 65534, 65535}
		if k == 3 {
			bad, good = append([]int{256, 257, 511, 32768, 65280, 65535}, noWords...), good[:4]
		}
		for _, n := range bad {
			ports := [5]int{1, 2, 3, 4, 5}
			ports[k] = n
			refused(t, "a port of", n, words, ports)
		}
		for _, n := range good {
			ports := [5]int{1, 2, 3, 4, 5}
			ports[k] = n
			v, ok := Load(words, ports)
			if !ok {
				t.Fatalf("Load with %v is refused", ports)
			}
			seePorts(t, "Load", ports[:], v, ports)
		}
	}
}

// TestLoadKeepsNothing: P13.1 and rule 4, what is handed in is neither kept nor changed, its spare room neither.
func TestLoadKeepsNothing(t *testing.T) {
	room := append(sample(), 11, 22, 33)
	before := slices.Clone(room)
	v, _ := Load(room[:size], [5]int{0, 0, 1, 0, 0})
	other, _ := Load(room[:size], [5]int{0, 0, 1, 0, 0})
	for k := range size {
		v.Poke(k, 5)
	}
	v.SetWrite(size - 2)
	for range 5 {
		v.Put(true, 7)
	}
	if !slices.Equal(room, before) {
		t.Error("what was handed in is changed")
	}
	for k := range room {
		room[k] = -9
	}
	see(t, "behind a change of the list", nil, other, model{sample(), [5]int{0, 0, 1, 0, 0}})
}

// TestWord: P13.2, at each number beside the edges, and at each place three times round.
func TestWord(t *testing.T) {
	ports := [5]int{1, 2, 3, 4, 5}
	v, want := loaded(t, ports)
	for _, at := range values {
		if got := v.Word(at); got != want.at(at) {
			t.Errorf("Word(%d) = %d, want %d", at, got, want.at(at))
		}
	}
	for at := -all - 9; at < 2*all+9; at++ {
		if got := v.Word(at); got != want.at(at) {
			t.Fatalf("Word(%d) = %d, want %d", at, got, want.at(at))
		}
	}
	see(t, "behind Word", nil, v, want)
}

// TestWordTable: P13.2, written out.
func TestWordTable(t *testing.T) {
	v := New()
	v.Poke(0, 10)
	v.Poke(1, 11)
	v.Poke(32767, 20)
	for at, want := range map[int]int{
		0: 10, 1: 11, 2: 0, 32766: 0, 32767: 20, 32768: 0, 32769: 0, 65535: 0, 65536: 10, 65537: 11, 98303: 20, 98304: 0, 131072: 10,
		-1: 0, -32768: 0, -32769: 20, -65535: 11, -65536: 10, -65537: 0,
		math.MinInt: 10, math.MinInt + 1: 11, math.MinInt + 32767: 20, math.MinInt + 32768: 0,
		math.MaxInt: 0, math.MaxInt - 65535: 10, math.MaxInt - 32768: 20, math.MaxInt - 32767: 0,
	} {
		if got := v.Word(at); got != want {
			t.Errorf("Word(%d) = %d, want %d", at, got, want)
		}
	}
}

// TestPoke: P13.2, one word is changed where there is one, and nothing else, the buffer neither.
func TestPoke(t *testing.T) {
	for _, at := range values {
		v, want := loaded(t, [5]int{modulo(at, all), modulo(at, all), 3, 4, 5})
		for _, w := range values {
			v.Poke(at, w)
			want.poke(at, w)
			if got := v.Word(at); got != want.at(at) {
				t.Errorf("behind Poke(%d, %d): %d, want %d", at, w, got, want.at(at))
			}
		}
		see(t, "Poke", []int{at}, v, want)
		v.Poke(at, 0xabcd)
		want.poke(at, 0xabcd)
		see(t, "Poke", []int{at}, v, want)
	}
}

// TestPokeTable: P13.2, written out.
func TestPokeTable(t *testing.T) {
	for _, c := range []struct{ at, w, place, want int }{
		{0, 65535, 0, 65535}, {0, 65536, 0, 0}, {0, 65537, 0, 1}, {32767, 9, 32767, 9}, {65536, 9, 0, 9}, {98303, 9, 32767, 9},
		{5, -1, 5, 65535}, {5, -65535, 5, 1}, {5, -65536, 5, 0}, {5, math.MaxInt, 5, 65535}, {5, math.MinInt, 5, 0}, {5, math.MinInt + 7, 5, 7},
		{-65536, 9, 0, 9}, {-32769, 9, 32767, 9}, {math.MinInt, 9, 0, 9}, {math.MaxInt - 32768, 9, 32767, 9},
	} {
		v := New()
		v.Poke(c.place, 77)
		v.Poke(c.at, c.w)
		want := model{make([]int, size), [5]int{2: 1}}
		want.words[c.place] = c.want
		see(t, "Poke", []int{c.at, c.w}, v, want)
	}
	for _, at := range []int{32768, 32769, 65535, 98304, 131071, -1, -32768, math.MaxInt, math.MinInt + 32768} {
		v := New()
		v.Poke(at, 9)
		see(t, "Poke where there is none", []int{at}, v, model{make([]int, size), [5]int{2: 1}})
	}
}

// TestWords: P13.2, word for word what stands from a place on, over the end of the words and of the places.
func TestWords(t *testing.T) {
	v, want := loaded(t, [5]int{1, 2, 3, 4, 5})
	for _, at := range values {
		for _, n := range []int{0, 1, 2, 3, 255, 256, 32767, 32768, 32769, 65534, 65535, 65536} {
			got := v.Words(at, n)
			if len(got) != n {
				t.Fatalf("Words(%d, %d): %d words", at, n, len(got))
			}
			for k, w := range got {
				if place := modulo(at, all) + k; w != want.at(place) {
					t.Fatalf("Words(%d, %d): the word %d is %d, want %d", at, n, k, w, want.at(place))
				}
			}
		}
	}
	see(t, "behind Words", nil, v, want)
}

// TestWordsTable: P13.2, written out.
func TestWordsTable(t *testing.T) {
	v := New()
	for place, w := range map[int]int{0: 10, 1: 11, 2: 12, 32766: 20, 32767: 21} {
		v.Poke(place, w)
	}
	for _, c := range []struct {
		at   int
		want []int
	}{
		{0, []int{10}}, {0, []int{10, 11, 12, 0}}, {1, []int{11, 12}}, {32766, []int{20, 21, 0, 0}}, {32767, []int{21}}, {32768, []int{0}}, {32768, []int{0, 0}},
		{65535, []int{0}}, {65535, []int{0, 10}}, {65534, []int{0, 0, 10, 11, 12}}, {65536, []int{10, 11}}, {98302, []int{20, 21, 0}},
		{-1, []int{0, 10, 11}}, {-65536, []int{10}}, {-32770, []int{20, 21, 0}}, {math.MaxInt, []int{0, 10, 11}}, {math.MinInt, []int{10, 11}}, {math.MinInt + 32767, []int{21, 0}},
	} {
		if got := v.Words(c.at, len(c.want)); !slices.Equal(got, c.want) {
			t.Errorf("Words(%d, %d) = %v, want %v", c.at, len(c.want), got, c.want)
		}
	}
}

// TestWordsNumber: P13.2, nothing, if n is not from 0 to 65536.
func TestWordsNumber(t *testing.T) {
	v, want := loaded(t, [5]int{1, 2, 3, 4, 5})
	for _, at := range values {
		for _, n := range []int{-1, -2, -65535, -65536, -65537, 65537, 65538, 131072, 1 << 31, 1 << 32, 1<<32 + 1, math.MaxInt, math.MaxInt - 65535, math.MinInt, math.MinInt + 1} {
			if got := v.Words(at, n); len(got) != 0 || cap(got) != 0 {
				t.Errorf("Words(%d, %d): %d words", at, n, len(got))
			}
		}
		if got := v.Words(at, 0); len(got) != 0 {
			t.Errorf("Words(%d, 0): %d words", at, len(got))
		}
	}
	see(t, "behind Words", nil, v, want)
}

// TestWordsAreNew: P13.2 and rule 4, what Words tells is not kept, nor its spare room, and is not changed later.
func TestWordsAreNew(t *testing.T) {
	v, want := loaded(t, [5]int{1, 2, 3, 4, 5})
	for _, c := range [][2]int{{0, all}, {0, size}, {0, 1}, {5, 20}, {5, all}, {32760, 8}, {32760, 20}, {65530, 20}, {32768, all}, {7, 0}} {
		one, two := v.Words(c[0], c[1]), v.Words(c[0], c[1])
		before := slices.Clone(two)
		one = one[:cap(one)]
		for k := range one {
			one[k] = -7
		}
		if !slices.Equal(two, before) {
			t.Errorf("Words%v: two of its lists share memory", c)
		}
		see(t, "behind a change of what Words told", c[:], v, want)
	}
	told := v.Words(0, all)
	before := slices.Clone(told)
	for k := range all {
		v.Poke(k, k+3)
	}
	if !slices.Equal(told, before) {
		t.Error("what Words told is changed by Poke")
	}
}

// TestSets: P13.3, each one changes its own number, and SetRead the buffer too.
func TestSets(t *testing.T) {
	for _, n := range values {
		v, want := loaded(t, [5]int{1, 2, 3, 4, 5})
		v.SetWrite(n)
		want.ports[0] = modulo(n, all)
		seePorts(t, "SetWrite", []int{n}, v, want.ports)
		v.SetStep(n)
		want.ports[2] = modulo(n, all)
		seePorts(t, "SetStep", []int{n}, v, want.ports)
		v.SetRead(n)
		want.setRead(n)
		see(t, "SetWrite, SetStep, SetRead", []int{n}, v, want)
	}
}

// TestSetsTable: P13.3, written out; the buffer is the word at the read place, 0 where there is none.
func TestSetsTable(t *testing.T) {
	for _, c := range []struct{ n, want, buffer int }{
		{0, 0, 10}, {1, 1, 0}, {32767, 32767, 20}, {32768, 32768, 0}, {65535, 65535, 0}, {65536, 0, 10}, {65537, 1, 0}, {98303, 32767, 20}, {98304, 32768, 0},
		{-1, 65535, 0}, {-32768, 32768, 0}, {-32769, 32767, 20}, {-65536, 0, 10}, {-65537, 65535, 0},
		{math.MaxInt, 65535, 0}, {math.MaxInt - 32768, 32767, 20}, {math.MinInt, 0, 10}, {math.MinInt + 32767, 32767, 20}, {math.MinInt + 32768, 32768, 0},
	} {
		v := New()
		v.Poke(0, 10)
		v.Poke(32767, 20)
		v.SetWrite(c.n)
		seePorts(t, "SetWrite", []int{c.n}, v, [5]int{c.want, 0, 1, 0, 0})
		v.SetStep(c.n)
		seePorts(t, "SetStep", []int{c.n}, v, [5]int{c.want, 0, c.want, 0, 0})
		v.SetRead(c.n)
		seePorts(t, "SetRead", []int{c.n}, v, [5]int{c.want, c.want, c.want, 0, c.buffer})
	}
}

// TestSetReadBuffer: P13.3, SetRead fetches the word at each place, and the others leave the buffer as it is.
func TestSetReadBuffer(t *testing.T) {
	v, want := loaded(t, [5]int{1, 2, 3, 4, 5})
	for at := range all {
		v.SetRead(at)
		want.setRead(at)
		v.SetWrite(at + 1)
		want.ports[0] = (at + 1) % all
		v.SetStep(at + 2)
		want.ports[2] = (at + 2) % all
		seePorts(t, "SetRead", []int{at}, v, want.ports)
	}
	v.SetRead(100)
	v.Poke(100, 0x5aa5)
	if _, _, _, _, buffer := v.Ports(); buffer != sample()[100] {
		t.Errorf("the buffer is %d behind a Poke at the read place", buffer)
	}
	v.SetRead(100)
	if _, _, _, _, buffer := v.Ports(); buffer != 0x5aa5 {
		t.Errorf("the buffer is %d behind SetRead of a new word", buffer)
	}
}

// TestPutLow: P13.4, the low byte is held, and nothing else is changed.
func TestPutLow(t *testing.T) {
	v, want := loaded(t, [5]int{1, 2, 3, 4, 5})
	for _, b := range values {
		v.Put(false, b)
		want.ports[3] = modulo(b, 256)
		seePorts(t, "Put low", []int{b}, v, want.ports)
	}
	see(t, "Put low", nil, v, want)
	for b, low := range map[int]int{0: 0, 255: 255, 256: 0, 511: 255, -1: 255, -255: 1, -256: 0, 65535: 255, math.MaxInt: 255, math.MinInt: 0, math.MinInt + 3: 3} {
		v.Put(false, b)
		want.ports[3] = low
		seePorts(t, "Put low", []int{b}, v, want.ports)
	}
}

// TestPutHigh: P13.4, a word is written at the write place, that goes on; the low byte stays, and so does all else.
func TestPutHigh(t *testing.T) {
	for _, place := range []int{0, 1, 5, 32766, 32767, 32768, 65534, 65535} {
		for _, step := range steps {
			v, want := loaded(t, [5]int{place, place, step, 0xa5, 0x1234})
			v.Put(true, 0x5c)
			want.put(true, 0x5c)
			see(t, "Put high", []int{place, step}, v, want)
			for _, b := range values {
				v.SetWrite(place)
				v.Put(true, b)
				want.ports[0] = place
				want.put(true, b)
				if got := v.Word(place); got != want.at(place) {
					t.Errorf("Put high of %d at %d: %d, want %d", b, place, got, want.at(place))
				}
				seePorts(t, "Put high", []int{place, step, b}, v, want.ports)
			}
			see(t, "Put high", []int{place, step}, v, want)
		}
	}
}

// TestPutTable: P13.4, written out: the word, and where the write place is then.
func TestPutTable(t *testing.T) {
	for _, c := range []struct{ place, step, low, high, word, next int }{
		{5, 1, 0x34, 0x12, 0x1234, 6}, {0, 0, 0, 0, 0, 0}, {0, 32, 255, 255, 65535, 32}, {0, 128, 255, 0, 255, 128}, {0, 65535, 0, 255, 0xff00, 65535}, {1, 65535, 1, 1, 257, 0},
		{32767, 1, 0x34, 0x12, 0x1234, 32768}, {32768, 1, 0x34, 0x12, 0, 32769}, {65535, 1, 0x34, 0x12, 0, 0}, {65535, 65535, 0x34, 0x12, 0, 65534}, {65534, 32, 1, 1, 0, 30}, {65535, 128, 1, 1, 0, 127}, {32767, 0, 7, 7, 0x707, 32767},
		{9, 1, 256, 256, 0, 10}, {9, 1, 511, 257, 0x1ff, 10}, {9, 1, -1, -1, 65535, 10}, {9, 1, -256, -255, 0x100, 10}, {9, 1, math.MaxInt, math.MinInt, 255, 10}, {9, 1, math.MinInt, math.MaxInt, 0xff00, 10},
	} {
		v := New()
		v.SetWrite(c.place)
		v.SetStep(c.step)
		v.Put(false, c.low)
		v.Put(true, c.high)
		want := model{make([]int, size), [5]int{c.next, 0, c.step, modulo(c.low, 256), 0}}
		want.poke(c.place, c.word)
		see(t, "Put", []int{c.place, c.step, c.low, c.high}, v, want)
	}
}

// TestLowIsHeld: P13.4, one low byte serves several high ones, and the last of several low ones holds.
func TestLowIsHeld(t *testing.T) {
	v := New()
	v.Put(false, 0x11)
	v.Put(false, 0x34)
	for n := range 3 {
		v.Put(true, 0x50+n)
	}
	v.Put(false, 0x35)
	if got, want := v.Words(0, 4), []int{0x5034, 0x5134, 0x5234, 0}; !slices.Equal(got, want) {
		t.Errorf("%x, want %x", got, want)
	}
	seePorts(t, "Put", nil, v, [5]int{3, 0, 1, 0x35, 0})
}

// TestGet: P13.4, low tells and changes nothing; high tells, and then the read place goes on, and the buffer is the word there.
func TestGet(t *testing.T) {
	for _, place := range []int{0, 1, 5, 32766, 32767, 32768, 65534, 65535} {
		for _, step := range steps {
			v, want := loaded(t, [5]int{place, place, step, 0xa5, 0x1234})
			for n := range 5 {
				for _, high := range []bool{false, false, true} {
					if got, told := v.Get(high), want.get(high); got != told {
						t.Errorf("Get(%v) the time %d from %d by %d: %x, want %x", high, n, place, step, got, told)
					}
					seePorts(t, "Get", []int{place, step, n}, v, want.ports)
				}
			}
			see(t, "Get", []int{place, step}, v, want)
		}
	}
}

// TestGetTable: P13.4, written out: what is told, where the read place is then, and the buffer.
func TestGetTable(t *testing.T) {
	for _, c := range []struct{ place, step, low, high, next, buffer int }{
		{0, 1, 0x34, 0x12, 1, 0xff00}, {1, 1, 0, 255, 2, 0}, {0, 0, 0x34, 0x12, 0, 0x1234}, {0, 32, 0x34, 0x12, 32, 0x0a0b}, {0, 128, 0x34, 0x12, 128, 0x00ff}, {0, 65535, 0x34, 0x12, 65535, 0},
		{1, 65535, 0, 255, 0, 0x1234}, {128, 65535, 255, 0, 127, 0}, {32767, 1, 0x78, 0x56, 32768, 0}, {32766, 1, 0, 0, 32767, 0x5678}, {32768, 65535, 0, 0, 32767, 0x5678}, {32768, 1, 0, 0, 32769, 0},
		{65535, 1, 0, 0, 0, 0x1234}, {65535, 2, 0, 0, 1, 0xff00}, {65504, 32, 0, 0, 0, 0x1234}, {65408, 128, 0, 0, 0, 0x1234}, {32767, 0, 0x78, 0x56, 32767, 0x5678},
	} {
		v := New()
		for place, w := range map[int]int{0: 0x1234, 1: 0xff00, 32: 0x0a0b, 128: 0x00ff, 32767: 0x5678} {
			v.Poke(place, w)
		}
		v.SetRead(c.place)
		v.SetStep(c.step)
		if low, high := v.Get(false), v.Get(true); low != c.low || high != c.high {
			t.Errorf("from %d: %x and %x, want %x and %x", c.place, low, high, c.low, c.high)
		}
		seePorts(t, "Get", []int{c.place, c.step}, v, [5]int{0, c.next, c.step, 0, c.buffer})
	}
}

// TestWrittenAheadOfGet: P13.4, a word that is written at the read place is told behind the next fetch, and not ahead of it.
func TestWrittenAheadOfGet(t *testing.T) {
	for name, write := range map[string]func(v *Vram){
		"Poke": func(v *Vram) { v.Poke(9, 0xbbbb) },
		"Put": func(v *Vram) {
			v.SetWrite(9)
			v.Put(false, 0xbb)
			v.Put(true, 0xbb)
		},
	} {
		v := New()
		v.Poke(9, 0xaaaa)
		v.SetStep(0)
		v.SetRead(9)
		write(v)
		if low, high := v.Get(false), v.Get(true); low != 0xaa || high != 0xaa {
			t.Errorf("%s: %x and %x ahead of the next fetch", name, low, high)
		}
		if low, high := v.Get(false), v.Get(true); low != 0xbb || high != 0xbb {
			t.Errorf("%s: %x and %x behind it", name, low, high)
		}
	}
	v := New()
	v.SetRead(4)
	v.Poke(5, 0xcccc)
	if high, low := v.Get(true), v.Get(false); high != 0 || low != 0xcc {
		t.Errorf("%x and %x, where the next word is written ahead of Get", high, low)
	}
}

// TestNone: P13.5 and rule 1, of nil, and of one that no call made, all is 0, and nothing is done.
func TestNone(t *testing.T) {
	for name, v := range map[string]*Vram{"nil": nil, "plain": {}, "new": new(Vram)} {
		for _, n := range values {
			v.SetWrite(n)
			v.SetRead(n)
			v.SetStep(n)
			v.Poke(n, 7)
			for _, high := range []bool{false, true, true} {
				v.Put(high, n)
				if got := v.Get(high); got != 0 {
					t.Errorf("%s: Get(%v) = %d", name, high, got)
				}
			}
			if got := v.Word(n); got != 0 {
				t.Errorf("%s: Word(%d) = %d", name, n, got)
			}
			for _, many := range []int{n, 0, 1, 5, all, all + 1} {
				if got := v.Words(n, many); len(got) != 0 {
					t.Errorf("%s: Words(%d, %d): %d words", name, n, many, len(got))
				}
			}
			seePorts(t, name, []int{n}, v, [5]int{})
		}
		if v != nil && *v != (Vram{}) {
			t.Errorf("%s: something is done", name)
		}
	}
}

// TestNoneTellsEachByItself: P13.5, each call alone leaves a plain one as it is.
func TestNoneTellsEachByItself(t *testing.T) {
	for name, call := range map[string]func(v *Vram){
		"SetWrite": func(v *Vram) { v.SetWrite(5) },
		"SetRead":  func(v *Vram) { v.SetRead(5) },
		"SetStep":  func(v *Vram) { v.SetStep(5) },
		"Put low":  func(v *Vram) { v.Put(false, 5) },
		"Put high": func(v *Vram) { v.Put(true, 5) },
		"Get low":  func(v *Vram) { v.Get(false) },
		"Get high": func(v *Vram) { v.Get(true) },
		"Word":     func(v *Vram) { v.Word(5) },
		"Poke":     func(v *Vram) { v.Poke(5, 5) },
		"Words":    func(v *Vram) { v.Words(5, 5) },
		"Ports":    func(v *Vram) { v.Ports() },
	} {
		call(nil)
		var v Vram
		call(&v)
		if v != (Vram{}) {
			t.Errorf("%s does something with a plain one", name)
		}
	}
}

// TestMadeWithZeros: P13.5, one that Load made with nothing but zeros is one, though it looks as a plain one does.
func TestMadeWithZeros(t *testing.T) {
	v, ok := Load(make([]int, size), [5]int{})
	if !ok {
		t.Fatal("Load of zeros")
	}
	v.Put(true, 3)
	v.SetRead(0)
	if got := v.Get(true); got != 3 || len(v.Words(0, 4)) != 4 {
		t.Errorf("Get = %d, %d words", got, len(v.Words(0, 4)))
	}
	seePorts(t, "zeros", nil, v, [5]int{0, 0, 0, 0, 0x300})
}

// TestWrittenIsRead: P13.5, what is written from a place on is read from there on, with each step, over the end of the words and of the places.
func TestWrittenIsRead(t *testing.T) {
	for _, step := range steps[1:5] {
		for _, first := range []int{0, 1, 300, 32700, 32767, 32768, 65500, 65535} {
			v, want := loaded(t, [5]int{1, 2, 3, 4, 5})
			v.SetStep(step)
			v.SetWrite(first)
			for n := range 200 {
				v.Put(false, n)
				v.Put(true, n+7)
				want.poke(first+n*step, n+(n+7)*256)
			}
			v.SetRead(first)
			for n := range 200 {
				w := want.at(first + n*step)
				if low, high := v.Get(false), v.Get(true); low != w%256 || high != w/256 {
					t.Fatalf("from %d by %d, the word %d is %x and %x, want %x", first, step, n, low, high, w)
				}
			}
			end := (first + 200*step) % all
			want.ports = [5]int{end, end, step, 199, want.at(end)}
			see(t, "written and read", []int{step, first}, v, want)
		}
	}
}

// TestWholeMemory: P13.5, all places once round: what has a word holds what was written, and the rest is 0.
func TestWholeMemory(t *testing.T) {
	v := New()
	v.SetWrite(40000)
	for k := range all {
		v.Put(false, k*3)
		v.Put(true, k/5)
	}
	v.SetRead(40000)
	for k := range all {
		want := 0
		if modulo(40000+k, all) < size {
			want = k*3%256 + k/5%256*256
		}
		if low, high := v.Get(false), v.Get(true); low+256*high != want {
			t.Fatalf("the word %d is %x and %x, want %x", k, low, high, want)
		}
	}
	if write, read, _, _, _ := v.Ports(); write != 40000 || read != 40000 {
		t.Errorf("places %d and %d behind all", write, read)
	}
}

// TestStoredAndLoaded: P13.1, what Words and Ports tell makes one that is the same, and goes on so.
func TestStoredAndLoaded(t *testing.T) {
	v, want := loaded(t, [5]int{32760, 65530, 3, 0, 0})
	for n := range 20 {
		v.Put(n%3 == 0, n*29)
		want.put(n%3 == 0, n*29)
		v.Get(n%2 == 0)
		want.get(n%2 == 0)
		again, ok := Load(v.Words(0, size), portsOf(v))
		if !ok {
			t.Fatal("what was told is refused")
		}
		v = again
	}
	see(t, "loaded again", nil, v, want)
}

// TestManyCalls: P13.1 to P13.4, calls of all kinds one behind the other, held against the model behind each.
func TestManyCalls(t *testing.T) {
	v, want := loaded(t, [5]int{1, 2, 3, 4, 5})
	seed := uint32(1)
	next := func(n int) int {
		seed = seed*1664525 + 1013904223
		return int(seed>>8) % n
	}
	for n := range 40000 {
		x, high := values[next(len(values))], next(2) == 1
		switch next(9) {
		case 0:
			v.SetWrite(x)
			want.ports[0] = modulo(x, all)
		case 1:
			v.SetRead(x)
			want.setRead(x)
		case 2:
			v.SetStep(x)
			want.ports[2] = modulo(x, all)
		case 3:
			w := next(1 << 20)
			v.Poke(x, w)
			want.poke(x, w)
		case 4, 5, 6:
			b := next(1024) - 512
			v.Put(high, b)
			want.put(high, b)
		default:
			if got, told := v.Get(high), want.get(high); got != told {
				t.Fatalf("the call %d, Get(%v) = %d, want %d", n, high, got, told)
			}
		}
		seePorts(t, "call", []int{n}, v, want.ports)
		if n%1000 == 0 {
			see(t, "call", []int{n}, v, want)
		}
	}
	see(t, "all calls", nil, v, want)
}
