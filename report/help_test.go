package report

import (
	"encoding/hex"
	"fmt"
	"math/rand/v2"
	"slices"
	"strings"
	"testing"

	"phosphor/api"
	"phosphor/card"
	"phosphor/console"
)

// Where parts of a program stand, in the card's first page, that is the eighth of what the processor sees.
const (
	codeAt = 0xe000
	dataAt = codeAt + 0x1000
	irq1At = codeAt + 0x1800
	tickAt = codeAt + 0x1900
	stopAt = codeAt + 0x1a00 // an RTI, where BRK leads
	// vectors is where in the page the five vectors stand; the last one is where a program begins.
	vectors = 0x1ff6
	start   = 0x1ffe
)

// played holds a script to be one, and tells what it prints.
func played(t testing.TB, script string) string {
	t.Helper()
	s, at, e := Play(script)
	if at != 0 || e != api.OK {
		t.Fatalf("%.200q: line %d, error %d", script, at, int(e))
	}
	return s
}

// expect holds what a script prints against lines.
func expect(t testing.TB, script string, lines ...string) {
	t.Helper()
	want := strings.Join(lines, "\n")
	if want != "" {
		want += "\n"
	}
	if s := played(t, script); s != want {
		t.Errorf("%.300q: %.500q, not %.500q", script, s, want)
	}
}

// wrong holds a script to be none, by a line.
func wrong(t testing.TB, script string, line int) {
	t.Helper()
	if s, at, e := Play(script); s != "" || at != line || e != api.ErrScript {
		t.Errorf("%.300q: %.300q, line %d, error %d, not line %d", script, s, at, int(e), line)
	}
}

// lines joins lines, each with its end.
func lines(l ...string) string { return strings.Join(l, "\n") + "\n" }

// laid are the lines that lay an image; pieces of zeros are left out.
func laid(image []byte) string {
	var s strings.Builder
	fmt.Fprintf(&s, "pages %d\n", len(image)/api.PageSize)
	for at := 0; at < len(image); at += 512 {
		piece := image[at : at+512]
		if slices.Max(piece) > 0 {
			fmt.Fprintf(&s, "at %d %s\n", at, hex.EncodeToString(piece))
		}
	}
	return s.String()
}

// begin is an image of so many pages whose program begins with these bytes, and goes round behind them.
func begin(pages int, code ...byte) []byte {
	image := make([]byte, pages*api.PageSize)
	copy(image, append(slices.Clone(code), 0x80, 0xfe))
	image[start], image[start+1] = codeAt%256, codeAt/256
	return image
}

// inserted is a console of an image, made without a script.
func inserted(t testing.TB, image []byte) *console.Console {
	t.Helper()
	c, e := card.Load(image)
	if e != api.OK {
		t.Fatal(int(e))
	}
	return console.New(c)
}

// video sets a register of the picture: ST0, ST1, ST2.
func video(register, n int) []byte {
	return []byte{0x03, byte(register), 0x13, byte(n), 0x23, byte(n >> 8)}
}

// store writes a byte at a place: LDA, STA.
func store(at, b int) []byte { return []byte{0xa9, byte(b), 0x8d, byte(at), byte(at >> 8)} }

// piece is a few instructions of any kind.
func piece(r *rand.Rand) []byte {
	switch r.IntN(8) {
	case 0, 1:
		return video([]int{0, 1, 5, 6, 7, 8, 9, 15, 16, 17, 19}[r.IntN(11)], r.IntN(65536))
	case 2:
		return store(0x400+r.IntN(8), r.IntN(256))
	case 3:
		return store(0x800+r.IntN(10), r.IntN(256))
	case 4:
		return slices.Concat(store(0xc00, r.IntN(4)), store(0xc01, r.IntN(5)))
	case 5:
		return slices.Concat([]byte{0xad, 0, 0x10, 0x85, byte(r.IntN(256))}, store(0x1000, r.IntN(4))) // the pads are read, and kept
	case 6:
		return slices.Concat(video(0, r.IntN(32768)), []byte{0x03, 2, 0xe3, byte(r.IntN(256)), dataAt / 256, 2, 0, byte(r.IntN(256)), byte(r.IntN(2))})
	}
	return [][]byte{{0x58}, {0x78}, {0xd4}, {0x54}, {0xf4}, {0xca}, {0xe6, 7}, store(0x1402, r.IntN(8))}[r.IntN(8)]
}

// busy is an image of a program of any pieces, that wakes all chips; the same each time.
func busy(pages int, seed uint64) []byte {
	r := rand.New(rand.NewPCG(seed, 28))
	image := begin(pages)
	code := slices.Concat([]byte{0xd4, 0xa9, 0xff, 0x53, 0x01, 0xa2, 0xff, 0x9a}, video(11, 31), video(12, 0xf02), video(13, 223), video(14, 12), video(5, 0xcc), []byte{0x58})
	// All colours, by a transfer, and two channels that sound, one of them of noise.
	code = slices.Concat(code, store(0x402, 0), store(0x403, 0), []byte{0xe3, 0, dataAt / 256, 4, 4, 0, 4})
	for _, one := range [][2]int{{1, 0xff}, {0, 0}, {2, 99}, {3, 1}, {5, 0xf7}, {6, 30}, {6, 2}, {6, 17}, {4, 0x9f}, {0, 5}, {5, 0x6f}, {7, 0x9a}, {4, 0x9c}} {
		code = append(code, store(0x800+one[0], one[1])...)
	}
	for len(code) < 0xe00 {
		code = append(code, piece(r)...)
	}
	put := func(at int, b []byte) { copy(image[at-codeAt:], b) }
	for at := dataAt; at < dataAt+0x500; at++ {
		put(at, []byte{byte(r.IntN(256))})
	}
	put(codeAt, append(code, 0x4c, 0, codeAt/256))
	put(irq1At, []byte{0x48, 0xad, 0, 0, 0xe6, 9, 0x68, 0x40})
	put(tickAt, []byte{0x48, 0x8d, 3, 0x14, 0xe6, 10, 0x68, 0x40})
	put(stopAt, []byte{0x40})
	for k, at := range []int{stopAt, irq1At, tickAt, stopAt, codeAt} {
		put(codeAt+vectors+2*k, []byte{byte(at % 256), byte(at / 256)})
	}
	return image
}
