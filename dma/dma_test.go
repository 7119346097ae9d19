package dma

import (
	"math"
	"slices"
	"testing"

	"phosphor/vram"
)

const (
	size = 32768
	all  = 65536
)

// places are ends at and beside the numbers that the chapter and layer 13 cut at, beyond both of them, below 0, and at both ends of int.
var places = []int{
	0, 1, 255, 256, 32766, 32767, 32768, 32769, 65534, 65535, 65536, 65537, 98303, 98304, 131071, 1<<32 + 5,
	-1, -2, -32768, -32769, -65535, -65536, -65537,
	math.MaxInt, math.MaxInt - 1, math.MaxInt - 32768, math.MaxInt - 65535,
	math.MinInt, math.MinInt + 1, math.MinInt + 32767, math.MinInt + 65536,
}

// few are those of them that long moves are tried with.
var few = []int{0, 32767, 32768, 65535, 65536, -1, math.MaxInt, math.MinInt}

// control is one, and what its bits 2 and 3 are, written out.
type control struct {
	n                     int
	firstBack, secondBack bool
}

var controls = []control{
	{0, false, false}, {4, true, false}, {8, false, true}, {12, true, true},
	{3, false, false}, {0x10, false, false}, {0xfff3, false, false}, {0xfff7, true, false}, {0xfffb, false, true}, {0xffff, true, true},
	{65536, false, false}, {65540, true, false}, {65544, false, true}, {65548, true, true}, {1<<40 + 8, false, true},
	{-1, true, true}, {-4, true, true}, {-8, false, true}, {-12, true, false}, {-13, false, false}, {-16, false, false}, {-65536, false, false}, {-65532, true, false},
	{math.MaxInt, true, true}, {math.MaxInt - 12, false, false}, {math.MaxInt - 8, true, false}, {math.MinInt, false, false}, {math.MinInt + 4, true, false}, {math.MinInt + 8, false, true}, {math.MinInt + 15, true, true},
}

// modulo is n modulo m, from 0 on: by division, where the package takes masks.
func modulo(n, m int) int { return (n%m + m) % m }

// sample has a word of its own at each place, and none of them is 0.
func sample() []int {
	words := make([]int, size)
	for k := range words {
		words[k] = 1 + (k*40503+4711)%65535
	}
	return words
}

// ports are such that a read or write by them, in place of Word and Poke, would change them.
var ports = [5]int{100, 200, 32, 55, 6666}

func loaded(t *testing.T, words []int) *vram.Vram {
	t.Helper()
	v, ok := vram.Load(words, ports)
	if !ok {
		t.Fatal("the words are none")
	}
	return v
}

// see holds all the words against what they must be, and the ports against what they were.
func see(t *testing.T, what string, given []int, v *vram.Vram, want []int) {
	t.Helper()
	got := v.Words(0, size)
	for k := range got {
		if got[k] != want[k] {
			t.Fatalf("%s%v: word %d is %d, want %d", what, given, k, got[k], want[k])
		}
	}
	write, read, step, low, buffer := v.Ports()
	if now := [5]int{write, read, step, low, buffer}; now != ports {
		t.Fatalf("%s%v: the ports are %v, and were %v", what, given, now, ports)
	}
}

// gone is where an end is behind so many words.
func gone(end, words int, back bool) int {
	if back {
		return modulo(modulo(end, all)-words, all)
	}
	return modulo(modulo(end, all)+words, all)
}

// moved lays what a move must lay, word by word, each place reckoned anew from the end that was given.
func moved(words []int, ends [2]int, count int, c control) {
	for k := range count {
		from, to := gone(ends[0], k, c.firstBack), gone(ends[1], k, c.secondBack)
		w := 0
		if from < size {
			w = words[from]
		}
		if to < size {
			words[to] = w
		}
	}
}

// tryMove moves in a memory of the sample's words, and holds the ends and all the words against what they must be.
func tryMove(t *testing.T, ends [2]int, n, count int, c control) {
	t.Helper()
	v, want := loaded(t, sample()), sample()
	given := []int{ends[0], ends[1], n, c.n}
	got := Move(v, ends, n, c.n)
	if told := [2]int{gone(ends[0], count, c.firstBack), gone(ends[1], count, c.secondBack)}; got != told {
		t.Fatalf("Move%v: ends %v, want %v", given, got, told)
	}
	moved(want, ends, count, c)
	see(t, "Move", given, v, want)
}

// TestExample: the chapter's example.
func TestExample(t *testing.T) {
	v := vram.New()
	for k := range 3 {
		v.Poke(k, k+1)
	}
	if got := Move(v, [2]int{0, 1}, 2, 0); got != [2]int{3, 4} {
		t.Errorf("the ends are %v", got)
	}
	if got := v.Words(0, 6); !slices.Equal(got, []int{1, 1, 1, 1, 0, 0}) {
		t.Errorf("the words are %v", got)
	}
}

// TestMoveWrittenOut: P16.1, few words and their ends, written out: both ends over 65535, over 0, and over the last word, in both directions.
func TestMoveWrittenOut(t *testing.T) {
	for _, c := range []struct {
		ends       [2]int
		n, control int
		told       [2]int
		places     []int // those that are laid
		words      []int // what lies there then, of a memory whose words are 1000 more than their places
	}{
		{[2]int{10, 20}, 0, 0, [2]int{11, 21}, []int{20}, []int{1010}},
		{[2]int{10, 20}, 0, 4, [2]int{9, 21}, []int{20}, []int{1010}},
		{[2]int{10, 20}, 0, 8, [2]int{11, 19}, []int{20}, []int{1010}},
		{[2]int{10, 20}, 0, 12, [2]int{9, 19}, []int{20}, []int{1010}},
		{[2]int{10, 20}, 1, 0, [2]int{12, 22}, []int{20, 21}, []int{1010, 1011}},
		{[2]int{10, 20}, 1, 4, [2]int{8, 22}, []int{20, 21}, []int{1010, 1009}},
		{[2]int{10, 20}, 1, 8, [2]int{12, 18}, []int{20, 19}, []int{1010, 1011}},
		{[2]int{10, 20}, 1, 12, [2]int{8, 18}, []int{20, 19}, []int{1010, 1009}},
		{[2]int{65535, 20}, 2, 0, [2]int{2, 23}, []int{20, 21, 22}, []int{0, 1000, 1001}},
		{[2]int{1, 20}, 2, 4, [2]int{65534, 23}, []int{20, 21, 22}, []int{1001, 1000, 0}},
		{[2]int{20, 65535}, 2, 0, [2]int{23, 2}, []int{0, 1}, []int{1021, 1022}},
		{[2]int{20, 1}, 2, 8, [2]int{23, 65534}, []int{1, 0}, []int{1020, 1021}},
		{[2]int{32767, 20}, 1, 0, [2]int{32769, 22}, []int{20, 21}, []int{33767, 0}},
		{[2]int{32768, 20}, 1, 4, [2]int{32766, 22}, []int{20, 21}, []int{0, 33767}},
		{[2]int{20, 32767}, 1, 0, [2]int{22, 32769}, []int{32767}, []int{1020}},
		{[2]int{20, 32768}, 1, 8, [2]int{22, 32766}, []int{32767}, []int{1021}},
		{[2]int{-1, 65536}, 1, 0, [2]int{1, 2}, []int{0, 1}, []int{0, 0}},
		{[2]int{math.MaxInt, 5}, 1, 0, [2]int{1, 7}, []int{5, 6}, []int{0, 1000}},
		{[2]int{math.MinInt, 5}, 1, 4, [2]int{65534, 7}, []int{5, 6}, []int{1000, 0}},
		{[2]int{5, math.MinInt}, 1, 8, [2]int{7, 65534}, []int{0}, []int{1005}},
	} {
		words := make([]int, size)
		for k := range words {
			words[k] = 1000 + k
		}
		v := loaded(t, words)
		given := []int{c.ends[0], c.ends[1], c.n, c.control}
		if got := Move(v, c.ends, c.n, c.control); got != c.told {
			t.Errorf("Move%v: ends %v, want %v", given, got, c.told)
		}
		for k, place := range c.places {
			words[place] = c.words[k]
		}
		see(t, "Move", given, v, words)
	}
}

// TestMoveEnds: P16.1, all places as both ends, in all four directions, with few words.
func TestMoveEnds(t *testing.T) {
	for _, first := range places {
		for _, second := range places {
			for k, c := range controls[:4] {
				n := 3 + k
				tryMove(t, [2]int{first, second}, n, n+1, c)
			}
		}
	}
}

// TestMoveControl: P16.1, just bits 2 and 3 of control count.
func TestMoveControl(t *testing.T) {
	for _, c := range controls {
		for _, ends := range [][2]int{{100, 200}, {1, 32766}, {65534, 2}, {-1, math.MaxInt}} {
			tryMove(t, ends, 4, 5, c)
		}
	}
}

// TestMoveCount: P16.1, so many words of n, with ends that all pass 65535 and 0 where there are many.
func TestMoveCount(t *testing.T) {
	for _, c := range []struct{ n, count int }{
		{0, 1}, {1, 2}, {65535, 65536}, {65536, 1}, {65537, 2}, {131071, 65536}, {1 << 32, 1},
		{-1, 65536}, {-2, 65535}, {-65535, 2}, {-65536, 1}, {-65537, 65536},
		{math.MaxInt, 65536}, {math.MaxInt - 65535, 1}, {math.MaxInt - 65534, 2}, {math.MinInt, 1}, {math.MinInt + 1, 2}, {math.MinInt + 65535, 65536},
	} {
		for _, way := range controls[:4] {
			tryMove(t, [2]int{5, 40}, c.n, c.count, way)
			tryMove(t, [2]int{65000, 32760}, c.n, c.count, way)
		}
	}
	for _, n := range []int{32768, 65535} {
		for _, first := range few {
			for _, second := range few {
				for _, way := range controls[:4] {
					tryMove(t, [2]int{first, second}, n, n+1, way)
				}
			}
		}
	}
}

// TestMoveNone: P16.1, of nil and of one that no call made nothing is moved, but the ends go.
func TestMoveNone(t *testing.T) {
	for _, first := range places {
		for _, c := range controls {
			for _, n := range []int{0, 1, 7, 65536, math.MinInt} {
				ends, count := [2]int{first, 5 - first/2}, modulo(n, all)+1
				want := [2]int{gone(ends[0], count, c.firstBack), gone(ends[1], count, c.secondBack)}
				plain := vram.Vram{}
				if got := Move(nil, ends, n, c.n); got != want {
					t.Fatalf("Move of nil %v, %d, %d: %v, want %v", ends, n, c.n, got, want)
				}
				if got := Move(&plain, ends, n, c.n); got != want || plain != (vram.Vram{}) {
					t.Fatalf("Move of a plain one %v, %d, %d: %v, want %v", ends, n, c.n, got, want)
				}
			}
		}
	}
	for _, n := range []int{65535, -1, math.MaxInt} {
		for k := range 4 {
			if got := Move(nil, [2]int{9, 20}, n, 4*k); got != [2]int{9, 20} {
				t.Errorf("Move of nil, n %d: %v, and all round they are where they were", n, got)
			}
		}
	}
}

// TestTable: P16.2, the 256 words from a place on, also over the last word and from 65535 to 0; and nothing is changed.
func TestTable(t *testing.T) {
	words := sample()
	v := loaded(t, words)
	from := append([]int{32512, 32513, 32600, 65280, 65281, 65400, -255, -256, -257, math.MaxInt - 100, math.MaxInt - 255, math.MaxInt - 256, math.MaxInt - 33000, math.MinInt + 32600}, places...)
	for _, at := range from {
		got := Table(v, at)
		for k, w := range got {
			want := 0
			if place := (modulo(at, all) + k) % all; place < size {
				want = words[place]
			}
			if w != want {
				t.Fatalf("Table from %d: word %d is %d, want %d", at, k, w, want)
			}
		}
	}
	see(t, "Table", nil, v, words)
}

// TestTableNone: P16.2, of nil and of one that no call made there are zeros.
func TestTableNone(t *testing.T) {
	for _, at := range places {
		plain := vram.Vram{}
		if Table(nil, at) != [256]int{} || Table(&plain, at) != [256]int{} || plain != (vram.Vram{}) {
			t.Errorf("Table of none, from %d", at)
		}
	}
}

// TestWithin: P16.3, ends that lie in one another move what was laid already, where the second one is ahead in the way that they go; else what was there.
func TestWithin(t *testing.T) {
	for _, c := range []struct {
		ends    [2]int
		control int
		want    []int // of words 0 to 9, whose words are 10 to 19
	}{
		{[2]int{2, 3}, 0, []int{10, 11, 12, 12, 12, 12, 12, 17, 18, 19}},
		{[2]int{2, 4}, 0, []int{10, 11, 12, 13, 12, 13, 12, 13, 18, 19}},
		{[2]int{3, 2}, 0, []int{10, 11, 13, 14, 15, 16, 16, 17, 18, 19}},
		{[2]int{4, 2}, 0, []int{10, 11, 14, 15, 16, 17, 16, 17, 18, 19}},
		{[2]int{7, 6}, 12, []int{10, 11, 12, 17, 17, 17, 17, 17, 18, 19}},
		{[2]int{7, 5}, 12, []int{10, 11, 16, 17, 16, 17, 16, 17, 18, 19}},
		{[2]int{6, 7}, 12, []int{10, 11, 12, 13, 13, 14, 15, 16, 18, 19}},
		{[2]int{5, 7}, 12, []int{10, 11, 12, 13, 12, 13, 14, 15, 18, 19}},
		{[2]int{5, 2}, 4, []int{10, 11, 15, 14, 14, 15, 16, 17, 18, 19}},
		{[2]int{2, 5}, 8, []int{10, 11, 12, 13, 13, 12, 16, 17, 18, 19}},
		{[2]int{4, 4}, 0, []int{10, 11, 12, 13, 14, 15, 16, 17, 18, 19}},
	} {
		v := vram.New()
		for k := range 10 {
			v.Poke(k, 10+k)
		}
		Move(v, c.ends, 3, c.control)
		if got := v.Words(0, 10); !slices.Equal(got, c.want) {
			t.Errorf("Move %v, 3, %d: %v, want %v", c.ends, c.control, got, c.want)
		}
	}
}

// TestThereAndBack: P16.3, apart from one another, words that are moved there and back are as they were, though theirs were wiped in between.
func TestThereAndBack(t *testing.T) {
	for _, c := range []struct{ first, second, n, there, back int }{
		{100, 5000, 99, 0, 0}, {199, 5099, 99, 12, 12}, {199, 5000, 99, 4, 8}, {100, 5099, 99, 8, 4},
		{0, 16384, 16383, 0, 0}, {16384, 0, 16383, 0, 0}, {32767, 16383, 16383, 12, 12}, {0, 32767, 16383, 8, 4}, {7, 9, 0, 0, 12},
	} {
		words := sample()
		v := loaded(t, words)
		Move(v, [2]int{c.first, c.second}, c.n, c.there)
		moved(words, [2]int{c.first, c.second}, c.n+1, control{c.there, c.there&4 != 0, c.there&8 != 0})
		for k := range c.n + 1 {
			v.Poke(gone(c.first, k, c.there&4 != 0), 0)
		}
		Move(v, [2]int{c.second, c.first}, c.n, c.back)
		see(t, "there and back", []int{c.first, c.second, c.n, c.there}, v, words)
	}
}
