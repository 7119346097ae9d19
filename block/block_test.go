package block

import (
	"math"
	"strings"
	"testing"
)

// edges are numbers at and beside those that the chapter cuts at, odd and even, below 0, and at both ends of int.
var edges = []int{
	0, 1, 2, 3, 255, 256, 32767, 32768, 65534, 65535, 65536, 65537, 65538, 131071, 131072,
	-1, -2, -3, -255, -256, -65534, -65535, -65536, -65537, -65538,
	math.MaxInt, math.MaxInt - 1, math.MaxInt - 65535, math.MinInt, math.MinInt + 1, math.MinInt + 65536,
}

// noKinds are numbers that no kind has, also such that have a kind's number modulo 256, as a word, or of five.
var noKinds = []int{-1, 5, -2, -4, -5, 6, 7, 9, 10, 255, 256, 259, -252, 65536, 65540, math.MaxInt, math.MaxInt - 3, math.MinInt, math.MinInt + 3}

// modulo divides, where the package masks.
func modulo(n, m int) int { return (n%m + m) % m }

func seeStep(t *testing.T, kind, i int, ends [2]int, from, to int) {
	t.Helper()
	if a, b := Step(kind, i, ends); a != from || b != to {
		t.Fatalf("Step(%d, %d, %v) = %d, %d, want %d, %d", kind, i, ends, a, b, from, to)
	}
}

// wantStep goes over the kinds by their promise, with remainders alone.
func wantStep(kind, i int, ends [2]int) (int, int) {
	first, second, n := modulo(ends[0], 65536), modulo(ends[1], 65536), modulo(i, 65536)
	switch kind {
	case 0:
		return (first + n) % 65536, (second + n) % 65536
	case 1:
		return (first + 65536 - n) % 65536, (second + 65536 - n) % 65536
	case 2:
		return (first + n) % 65536, second
	case 3:
		return (first + n) % 65536, (second + modulo(i, 2)) % 65536
	case 4:
		return (first + modulo(i, 2)) % 65536, (second + n) % 65536
	}
	return 0, 0
}

// TestKindNumbers: P9.1, the numbers that the kinds have.
func TestKindNumbers(t *testing.T) {
	if got := [5]int{Tii, Tdd, Tin, Tia, Tai}; got != [5]int{0, 1, 2, 3, 4} {
		t.Errorf("the kinds are %v", got)
	}
	for want, name := range []string{"TII", "TDD", "TIN", "TIA", "TAI"} {
		if kind, ok := Kind(name); kind != want || !ok {
			t.Errorf("Kind(%q) = %d, %v, want %d, true", name, kind, ok, want)
		}
	}
}

// TestKindOthers: P9.1, names that are none: no letter, small letters, too short, too long, and others of three letters.
func TestKindOthers(t *testing.T) {
	others := []string{
		"", " ", "\x00", "T", "I", "N", "LDA", "TAX", "TAM", "TMA", "TST", "TSB", "ITI", "IIT", "AIT", "TAA", "TAD", "TAN",
		"TII\x00", "\x00TII", "TII TDD", "TIITDD", "tII", "Tii", "TIi", "\u0422II", "T\xffI", "T0I", "0", "1", "TII0",
	}
	for _, name := range []string{"TII", "TDD", "TIN", "TIA", "TAI"} {
		others = append(others, strings.ToLower(name), name[:2], name[1:], name[:1], name+"I", name+" ", name+"\n", " "+name, "T"+name, name+name)
	}
	for _, name := range others {
		if kind, ok := Kind(name); kind != 0 || ok {
			t.Errorf("Kind(%q) = %d, %v, want 0, false", name, kind, ok)
		}
	}
}

// TestKindLetters: P9.1, each name of three great letters: just five of them are kinds.
func TestKindLetters(t *testing.T) {
	found := ""
	for n := range 26 * 26 * 26 {
		name := string([]byte{byte('A' + n/676), byte('A' + n/26%26), byte('A' + n%26)})
		kind, ok := Kind(name)
		if ok {
			found += name
		} else if kind != 0 {
			t.Errorf("Kind(%q) = %d, false", name, kind)
		}
	}
	if found != "TAITDDTIATIITIN" {
		t.Errorf("kinds are %s", found)
	}
}

// TestCountTable: P9.2, written out.
func TestCountTable(t *testing.T) {
	for _, x := range [][3]int{
		{0, 65536, 393233}, {1, 1, 23}, {2, 2, 29}, {3, 3, 35}, {65535, 65535, 393227}, {65536, 65536, 393233}, {65537, 1, 23},
		{131071, 65535, 393227}, {131072, 65536, 393233}, {131073, 1, 23},
		{-1, 65535, 393227}, {-2, 65534, 393221}, {-65535, 1, 23}, {-65536, 65536, 393233}, {-65537, 65535, 393227},
		{math.MaxInt, 65535, 393227}, {math.MaxInt - 1, 65534, 393221}, {math.MinInt, 65536, 393233}, {math.MinInt + 1, 1, 23},
	} {
		if got := Count(x[0]); got != x[1] {
			t.Errorf("Count(%d) = %d, want %d", x[0], got, x[1])
		}
		if got := Cycles(x[0]); got != x[2] {
			t.Errorf("Cycles(%d) = %d, want %d", x[0], got, x[2])
		}
	}
}

// TestCountLengths: P9.2, each length from two rounds below 0 to two above, counted on from length to length.
func TestCountLengths(t *testing.T) {
	count, cycles := 65536, 17+6*65536
	for n := -131072; n <= 131072; n++ {
		if Count(n) != count || Cycles(n) != cycles {
			t.Fatalf("length %d: %d bytes in %d cycles, want %d in %d", n, Count(n), Cycles(n), count, cycles)
		}
		count, cycles = count+1, cycles+6
		if count > 65536 {
			count, cycles = 1, 23
		}
	}
}

// TestStepTable: P9.3 and the chapter's example, written out.
func TestStepTable(t *testing.T) {
	for _, x := range [][6]int{
		{Tia, 3, 100, 200, 103, 201},
		{Tii, 0, 100, 200, 100, 200}, {Tii, 1, 100, 200, 101, 201}, {Tii, 2, 65535, 65534, 1, 0}, {Tii, -1, 0, 5, 65535, 4},
		{Tii, 65535, 1, 0, 0, 65535}, {Tii, 65536, 1, 2, 1, 2}, {Tii, 65537, 1, 2, 2, 3}, {Tii, 1, -1, -2, 0, 65535}, {Tii, math.MaxInt, math.MaxInt, 1, 65534, 0},
		{Tdd, 0, 100, 200, 100, 200}, {Tdd, 1, 0, 5, 65535, 4}, {Tdd, 2, 1, 2, 65535, 0}, {Tdd, -1, 65535, 5, 0, 6},
		{Tdd, 65535, 0, 65535, 1, 0}, {Tdd, 65536, 1, 2, 1, 2}, {Tdd, math.MinInt, math.MinInt, 7, 0, 7}, {Tdd, math.MaxInt, 0, math.MinInt, 1, 1},
		{Tin, 0, 1, 9, 1, 9}, {Tin, 7, 1, 9, 8, 9}, {Tin, 1, 65535, 65535, 0, 65535}, {Tin, 1, 65536, 65536, 1, 0}, {Tin, -3, 1, -1, 65534, 65535},
		{Tia, 0, 100, 200, 100, 200}, {Tia, 1, 100, 200, 101, 201}, {Tia, 2, 100, 200, 102, 200}, {Tia, 1, 65535, 65535, 0, 0},
		{Tia, -1, 100, 200, 99, 201}, {Tia, -2, 100, 200, 98, 200}, {Tia, 65535, 100, 200, 99, 201}, {Tia, 65536, 100, 65537, 100, 1}, {Tia, math.MaxInt, 0, math.MaxInt, 65535, 0},
		{Tai, 0, 100, 200, 100, 200}, {Tai, 1, 100, 200, 101, 201}, {Tai, 2, 100, 200, 100, 202}, {Tai, 3, 100, 200, 101, 203}, {Tai, 1, 65535, 65535, 0, 0},
		{Tai, -1, 100, 200, 101, 199}, {Tai, -2, 100, 200, 100, 198}, {Tai, 65537, 65537, 65537, 2, 2}, {Tai, math.MinInt, -1, 3, 65535, 3},
	} {
		seeStep(t, x[0], x[1], [2]int{x[2], x[3]}, x[4], x[5])
	}
}

// TestStepEdges: P9.3, each kind with each edge as i and as both ends.
func TestStepEdges(t *testing.T) {
	for kind := range 5 {
		for _, i := range edges {
			for _, first := range edges {
				for _, second := range edges {
					ends := [2]int{first, second}
					from, to := wantStep(kind, i, ends)
					seeStep(t, kind, i, ends, from, to)
				}
			}
		}
	}
}

// TestStepNoKinds: P9.3, numbers that no kind has.
func TestStepNoKinds(t *testing.T) {
	for _, kind := range noKinds {
		for _, i := range edges {
			for _, first := range edges {
				for _, second := range edges {
					seeStep(t, kind, i, [2]int{first, second}, 0, 0)
				}
			}
		}
	}
}

// walk moves an end from byte to byte: by one on or back, or, of one that swings, there and back again.
func walk(at, by int) int { return modulo(at+by, 65536) }

// TestStepWalk: P9.3 and P9.4, each byte of two whole transfers of each kind, walked from byte to byte, the second one as the first.
func TestStepWalk(t *testing.T) {
	strides := [5][2]int{{1, 1}, {-1, -1}, {1, 0}, {1, 2}, {2, 1}}
	for kind, by := range strides {
		start := [2]int{65530, 3}
		at := start
		for i := range 2 * 65536 {
			seeStep(t, kind, i, start, at[0], at[1])
			for k := range at {
				switch {
				case by[k] < 2:
					at[k] = walk(at[k], by[k])
				case i%2 == 0:
					at[k] = walk(at[k], 1)
				default:
					at[k] = walk(at[k], -1)
				}
			}
		}
		if at != start {
			t.Errorf("kind %d ends at %v, began at %v", kind, at, start)
		}
	}
}

// TestAnew: P9.4, each kind, with i and 65536 more, and 65536 less.
func TestAnew(t *testing.T) {
	numbers := []int{0, 1, 2, 3, 4095, 32768, 65534, 65535, 65536, 65537, -1, -2, -65535, -65536, -65537, math.MaxInt - 65536, math.MaxInt - 65537, math.MinInt + 65536, math.MinInt + 65537}
	for kind := -1; kind <= 5; kind++ {
		for _, i := range numbers {
			for _, ends := range [][2]int{{0, 0}, {100, 200}, {65535, 1}, {-1, 65536}, {math.MaxInt, math.MinInt}} {
				from, to := Step(kind, i, ends)
				if i <= math.MaxInt-65536 {
					seeStep(t, kind, i+65536, ends, from, to)
				}
				if i >= math.MinInt+65536 {
					seeStep(t, kind, i-65536, ends, from, to)
				}
			}
		}
	}
}

// TestKindsOfTransfers: P9.1 and P9.3 together, the second byte of a transfer by its name.
func TestKindsOfTransfers(t *testing.T) {
	for name, want := range map[string][2]int{"TII": {11, 21}, "TDD": {9, 19}, "TIN": {11, 20}, "TIA": {11, 21}, "TAI": {11, 21}} {
		kind, ok := Kind(name)
		if from, to := Step(kind, 1, [2]int{10, 20}); !ok || from != want[0] || to != want[1] {
			t.Errorf("%s: %d, %d, want %v", name, from, to, want)
		}
	}
}
