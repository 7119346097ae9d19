package report

import (
	"hash/adler32"
	"math"
	"math/rand/v2"
	"slices"
	"testing"

	"phosphor/console"
	"phosphor/state"
)

// expectPicture holds Picture against the chapter's bytes, and against a sum of another make.
func expectPicture(t *testing.T, f console.Frame, b []byte) {
	t.Helper()
	if n := Picture(f); n != state.Sum(b) || n != int(adler32.Checksum(b)) {
		t.Errorf("%v: %d, not %d, of %v", f, n, state.Sum(b), b)
	}
}

// TestPictureNone: P28.2, of no frame, and of lists without an element.
func TestPictureNone(t *testing.T) {
	for _, f := range []console.Frame{{}, {Lines: [][]int{}, Samples: [][2]int{}}, {Lines: [][]int{nil, {}}}} {
		if n := Picture(f); n != 1 {
			t.Errorf("%v: %d", f, n)
		}
	}
}

// TestPicture: P28.2, its bytes one by one: lines and samples in more than one order, colours above 255 and above 65535, samples below 0, and numbers of all of int.
func TestPicture(t *testing.T) {
	for _, one := range []struct {
		f console.Frame
		b []byte
	}{
		{console.Frame{Lines: [][]int{{5}}}, []byte{5, 0}},
		{console.Frame{Lines: [][]int{{1, 2}, {3}}}, []byte{1, 0, 2, 0, 3, 0}},
		{console.Frame{Lines: [][]int{{3}, {1, 2}}}, []byte{3, 0, 1, 0, 2, 0}},
		{console.Frame{Lines: [][]int{{2, 1}, {3}}}, []byte{2, 0, 1, 0, 3, 0}},
		{console.Frame{Lines: [][]int{{}, {256, 511}, nil, {255}}}, []byte{0, 1, 255, 1, 255, 0}},
		{console.Frame{Lines: [][]int{{0x1234, 0x56789a, -2}}}, []byte{0x34, 0x12, 0x9a, 0x78, 0xfe, 0xff}},
		{console.Frame{Samples: [][2]int{{1, 2}}}, []byte{1, 0, 0, 0, 2, 0, 0, 0}},
		{console.Frame{Samples: [][2]int{{2, 1}}}, []byte{2, 0, 0, 0, 1, 0, 0, 0}},
		{console.Frame{Samples: [][2]int{{1, 2}, {3, 4}}}, []byte{1, 0, 0, 0, 2, 0, 0, 0, 3, 0, 0, 0, 4, 0, 0, 0}},
		{console.Frame{Samples: [][2]int{{3, 4}, {1, 2}}}, []byte{3, 0, 0, 0, 4, 0, 0, 0, 1, 0, 0, 0, 2, 0, 0, 0}},
		{console.Frame{Samples: [][2]int{{-1, -256}}}, []byte{255, 255, 255, 255, 0, 255, 255, 255}},
		{console.Frame{Samples: [][2]int{{0x12345678, -16384}}}, []byte{0x78, 0x56, 0x34, 0x12, 0, 0xc0, 255, 255}},
		{console.Frame{Samples: [][2]int{{math.MaxInt, math.MinInt}}}, []byte{255, 255, 255, 255, 0, 0, 0, 0}},
		{console.Frame{Samples: [][2]int{{1<<32 + 7, -1 << 31}}}, []byte{7, 0, 0, 0, 0, 0, 0, 0x80}},
		{console.Frame{Lines: [][]int{{math.MaxInt, math.MinInt}}}, []byte{255, 255, 0, 0}},
		{console.Frame{Lines: [][]int{{9}, {300, 8}}, Samples: [][2]int{{-5, 6}, {7, 0}}}, []byte{9, 0, 44, 1, 8, 0, 251, 255, 255, 255, 6, 0, 0, 0, 7, 0, 0, 0, 0, 0, 0, 0}},
	} {
		expectPicture(t, one.f, one.b)
	}
}

// TestPictureOrders: P28.2, that another order is another sum.
func TestPictureOrders(t *testing.T) {
	one := console.Frame{Lines: [][]int{{1, 20}, {300, 4}}, Samples: [][2]int{{5, -6}, {77, 800}}}
	sums := map[int]bool{}
	for _, f := range []console.Frame{
		one,
		{Lines: [][]int{{300, 4}, {1, 20}}, Samples: one.Samples},
		{Lines: [][]int{{20, 1}, {300, 4}}, Samples: one.Samples},
		{Lines: [][]int{{1, 20}, {4, 300}}, Samples: one.Samples},
		{Lines: one.Lines, Samples: [][2]int{{77, 800}, {5, -6}}},
		{Lines: one.Lines, Samples: [][2]int{{-6, 5}, {77, 800}}},
		{Lines: one.Lines},
		{Samples: one.Samples},
	} {
		sums[Picture(f)] = true
	}
	if len(sums) != 8 {
		t.Error(sums)
	}
}

// TestPictureAny: P28.2, of frames of any numbers.
func TestPictureAny(t *testing.T) {
	r := rand.New(rand.NewPCG(28, 2))
	for range 300 {
		var f console.Frame
		for range r.IntN(6) {
			colours := make([]int, r.IntN(40))
			for k := range colours {
				colours[k] = int(r.Uint64()) >> r.IntN(64)
			}
			f.Lines = append(f.Lines, colours)
		}
		for range r.IntN(20) {
			f.Samples = append(f.Samples, [2]int{int(r.Uint64()) >> r.IntN(64), int(r.Uint64()) >> r.IntN(64)})
		}
		if n, want := Picture(f), modelPicture(f); n != want {
			t.Fatalf("%v: %d, not %d", f, n, want)
		}
	}
}

// TestPictureKeeps: rule 4: a frame that is handed in is not changed, its spare room neither.
func TestPictureKeeps(t *testing.T) {
	spare := []int{1, 2, 3}
	f := console.Frame{Lines: [][]int{spare[:1], {-1}}, Samples: [][2]int{{-1, 70000}}}
	Picture(f)
	if !slices.Equal(spare, []int{1, 2, 3}) || f.Lines[1][0] != -1 || f.Samples[0] != [2]int{-1, 70000} {
		t.Error(spare, f)
	}
}

// TestPictureConsole: P28.2, of what a console draws and tells.
func TestPictureConsole(t *testing.T) {
	c := inserted(t, busy(1, 5))
	below, above := 0, 0
	for range 4 {
		f := c.RunFrame()
		if n, want := Picture(f), modelPicture(f); n != want {
			t.Errorf("%d, not %d", n, want)
		}
		for _, sample := range f.Samples {
			below += max(0, min(1, -sample[0]))
		}
		for _, colours := range f.Lines {
			above += max(0, slices.Max(colours)-255)
		}
	}
	if below == 0 || above == 0 {
		t.Error("neither samples below 0 nor colours above 255 were there:", below, above)
	}
}
