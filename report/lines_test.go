package report

import (
	"bytes"
	"fmt"
	"slices"
	"strings"
	"testing"

	"phosphor/api"
	"phosphor/console"
	"phosphor/pad"
	"phosphor/state"
)

// asking are the lines that ask for a console, one of each kind.
var asking = []string{"reset", "press 1 2 3 4 5", "run 0", "run 1", "run 1048576", "frame", "regs", "ram 0", "save", "load", "frames"}

// drawn is the line that run and frame print.
func drawn(f console.Frame) string {
	return fmt.Sprintf("lines %d samples %d sum %d", len(f.Lines), len(f.Samples), modelPicture(f))
}

// saved is the line that save prints.
func saved(t testing.TB, c *console.Console) string {
	t.Helper()
	b, e := state.Encode(c)
	if e != api.OK {
		t.Fatal(int(e))
	}
	return fmt.Sprint("saved ", state.Sum(b))
}

// imageOf tells the image behind the lines of a script.
func imageOf(t *testing.T, script string) []byte {
	t.Helper()
	actions, wrong := read(script)
	if wrong != 0 {
		t.Fatal(wrong)
	}
	p := &player{}
	for _, do := range actions {
		do(p)
	}
	if s := p.printed.String(); s != "" {
		t.Errorf("%q: %q", script, s)
	}
	return p.image
}

// TestExample: the example of the chapter.
func TestExample(t *testing.T) {
	expect(t, "pages 1\ninsert\nregs\n", "ok", "0 0 0 0 4 0 slow")
}

// TestEmpty: P28.1, of scripts without a line.
func TestEmpty(t *testing.T) {
	for _, script := range []string{"", "\n", "\n\n\n", "#", "# pages 9\n", "#\n\n#x"} {
		expect(t, script)
	}
}

// TestNone: P28.1, each line that asks for a console, where there is none: from the beginning on, with an image that is not inserted, and behind an insert that fails.
func TestNone(t *testing.T) {
	for _, one := range asking {
		expect(t, one, "none")
		expect(t, lines(one, one, "pages 1", "at 0 00", one), "none", "none", "none")
		expect(t, lines("insert", one), "error 10", "none")
		expect(t, lines("pages 3", "insert", one), "error 13", "none")
		expect(t, lines("pages 1", "insert", "save", "pages 3", "insert", one, one), "ok", saved(t, inserted(t, make([]byte, 8192))), "error 13", "none", "none")
	}
}

// TestPages: P28.1, of images of 1 to 8 pages: what they are, and that those before are gone.
func TestPages(t *testing.T) {
	for n := 1; n <= 8; n++ {
		zeros := make([]byte, n*8192)
		page := fmt.Sprint("pages ", n)
		for _, script := range []string{page, lines("pages 8", "at 0 ff", "at 8190 ff", page), lines("pages 1", "at 0 ff", page), "pages 00000000" + fmt.Sprint(n)} {
			if image := imageOf(t, script); !bytes.Equal(image, zeros) {
				t.Errorf("%q: %d bytes", script, len(image))
			}
		}
	}
	expect(t, lines("pages 1", "at 8190 34f2", "insert", "regs", "pages 1", "regs", "insert", "regs"),
		"ok", "0 0 0 0 4 62004 slow", "0 0 0 0 4 62004 slow", "ok", "0 0 0 0 4 0 slow")
}

// TestPagesAll: P28.1, that each page of an image is one of the card: the last byte of each, through the second register.
func TestPagesAll(t *testing.T) {
	for _, pages := range []int{1, 2, 4, 8} {
		for n := range pages {
			image := begin(pages, 0xa9, byte(n), 0x53, 2, 0xad, 0xfd, 0x3f)
			for k := range pages {
				image[k*8192+0x1ffd] = byte(90 + k)
			}
			expect(t, laid(image)+lines("insert", "run 1000", "regs"), "ok", drawn(inserted(t, image).Run(1000)), fmt.Sprintf("%d 0 0 0 4 57351 slow", 90+n))
		}
	}
}

// TestAt: P28.1, within the image, across its end, behind it, one over another, and with no image yet.
func TestAt(t *testing.T) {
	image := make([]byte, 8192)
	laidOver := func(at int, b ...byte) []byte {
		own := slices.Clone(image)
		copy(own[at:], b)
		return own
	}
	for script, want := range map[string][]byte{
		"at 0 00":                     laidOver(0),
		"at 0 ff":                     laidOver(0, 255),
		"at 0 0123456789abcdef":       laidOver(0, 0x01, 0x23, 0x45, 0x67, 0x89, 0xab, 0xcd, 0xef),
		"at 100 1a2b":                 laidOver(100, 0x1a, 0x2b),
		"at 000000100 1a2b":           laidOver(100, 0x1a, 0x2b),
		"at 8191 e0":                  laidOver(8191, 0xe0),
		"at 8191 e0ffff":              laidOver(8191, 0xe0),
		"at 8190 e1e0ffff":            laidOver(8190, 0xe1, 0xe0),
		"at 8192 ff":                  image,
		"at 8193 ffff":                image,
		"at 65536 ff":                 image,
		"at 999999999 ff":             image,
		"at 5 010203\nat 6 ff":        laidOver(5, 1, 255, 3),
		"at 6 ff\nat 5 010203":        laidOver(5, 1, 2, 3),
		"at 8000 " + hexes(512, "5c"): laidOver(8000, bytes.Repeat([]byte{0x5c}, 192)...),
		"at 7 " + hexes(512, "c5"):    laidOver(7, bytes.Repeat([]byte{0xc5}, 512)...),
	} {
		if told := imageOf(t, "pages 1\n"+script); !bytes.Equal(told, want) {
			t.Errorf("%.50q: %d bytes, another image", script, len(told))
		}
		if told := imageOf(t, script); len(told) != 0 {
			t.Errorf("%.50q: %d bytes, of no image", script, len(told))
		}
		if told := imageOf(t, script+"\npages 1"); !bytes.Equal(told, image) {
			t.Errorf("%.50q: it was kept", script)
		}
	}
	if told := imageOf(t, "pages 2\nat 8191 0102\nat 16383 0304"); told[8191] != 1 || told[8192] != 2 || told[16383] != 3 || len(told) != 16384 {
		t.Error("across pages")
	}
	expect(t, "at 0 ff\ninsert", "error 10")
	expect(t, "pages 1\nat 8191 e0ff\nat 8192 ff\ninsert\nregs", "ok", "0 0 0 0 4 57344 slow")
}

// hexes is so many times the same byte.
func hexes(many int, digits string) string { return strings.Repeat(digits, many) }

// TestAtLater: P28.1, that the card of an insert is the image as it was then.
func TestAtLater(t *testing.T) {
	expect(t, lines("pages 1", "at 8190 34f2", "insert", "at 8190 00e0", "reset", "regs", "insert", "regs", "reset", "regs"),
		"ok", "ok", "0 0 0 0 4 62004 slow", "ok", "0 0 0 0 4 57344 slow", "ok", "0 0 0 0 4 57344 slow")
}

// TestInsert: P28.1, images that are a card, and each that is none.
func TestInsert(t *testing.T) {
	expect(t, "insert", "error 10")
	expect(t, "insert\ninsert", "error 10", "error 10")
	for n, want := range []string{1: "ok", 2: "ok", 3: "error 13", 4: "ok", 5: "error 13", 6: "error 13", 7: "error 13", 8: "ok"} {
		if want == "" {
			continue
		}
		there := "none"
		if want == "ok" {
			there = "0 0 0 0 4 0 slow"
		}
		page := fmt.Sprint("pages ", n)
		expect(t, lines(page, "insert", "regs"), want, there)
		expect(t, lines("pages 1", "insert", page, "regs", "insert", "regs"), "ok", "0 0 0 0 4 0 slow", want, there)
		expect(t, lines("pages 5", "insert", page, "regs", "insert", "regs"), "error 13", "none", want, there)
	}
}

// TestInsertAnew: P28.1, that an insert makes a console anew, also of the same image.
func TestInsertAnew(t *testing.T) {
	image := busy(1, 1)
	one := inserted(t, image)
	fresh := saved(t, one)
	f := drawn(one.Run(5000))
	expect(t, laid(image)+lines("insert", "save", "run 5000", "save", "insert", "save", "run 5000"), "ok", fresh, f, saved(t, one), "ok", fresh, f)
}

// TestInsertKeepsSaved: P28.1, that what is saved stays, whatever is inserted.
func TestInsertKeepsSaved(t *testing.T) {
	image := begin(1, 0xa9, 77)
	ran := drawn(inserted(t, image).Run(100))
	expect(t, laid(image)+lines("insert", "run 100", "save", "pages 3", "insert", "load", "pages 1", "insert", "regs", "load", "regs"),
		"ok", ran, saved(t, behind(t, image, 100)), "error 13", "none", "ok", "0 0 0 0 4 0 slow", "ok", "77 0 0 0 4 57346 slow")
}

// behind is a console of an image behind so many ticks.
func behind(t testing.TB, image []byte, ticks int) *console.Console {
	t.Helper()
	c := inserted(t, image)
	c.Run(ticks)
	return c
}

// TestReset: P28.1: registers as behind a reset, and nothing else.
func TestReset(t *testing.T) {
	image := begin(1, 0xa9, 5, 0x85, 3, 0xd4)
	c := behind(t, image, 5000)
	ran := drawn(inserted(t, image).Run(5000))
	before := saved(t, c)
	c.Reset()
	after := saved(t, c)
	expect(t, laid(image)+lines("insert", "run 5000", "regs", "save", "reset", "regs", "save", "ram 3"),
		"ok", ran, "5 0 0 0 4 57349 fast", before, "ok", "0 0 0 0 4 57344 slow", after, "5")
}

// asksPads is a program that keeps in memory, from 0 on, what it reads of each pad, its directions first.
func asksPads() []byte {
	write := func(b int) []byte { return store(0x1000, b) }
	code := slices.Concat([]byte{0xa9, 0xff, 0x53, 1}, write(3))
	for k := range 5 {
		kept := func(at int) []byte { return []byte{0xad, 0, 0x10, 0x29, 15, 0x85, byte(at)} }
		code = slices.Concat(code, write(1), kept(2*k), write(0), kept(2*k+1))
	}
	return begin(1, code...)
}

// TestPress: P28.1: which keys are whose, that they are modulo 65536, and that no pad has six; a key that is pressed is read as 0.
// The program reads the halves of pads that have six otherwise.
func TestPress(t *testing.T) {
	image := asksPads()
	look := func(pressed string, want ...string) {
		t.Helper()
		script := laid(image) + lines("insert", pressed, "run 9000")
		for k := range 10 {
			script += fmt.Sprintf("ram %d\n", k)
		}
		got := strings.Split(strings.TrimSpace(played(t, script)), "\n")
		if got[1] != "ok" || !slices.Equal(got[len(got)-10:], want) {
			t.Error(pressed, got, want)
		}
	}
	look("press 0 0 0 0 0", "15", "15", "15", "15", "15", "15", "15", "15", "15", "15")
	look("press 33 66 132 24 65551", "13", "14", "11", "13", "7", "11", "14", "7", "15", "0")
	look("press 65280 0 000000255 65536 999999999", "15", "15", "15", "15", "0", "0", "15", "15", "0", "0")
	look("press 1 2 3 4 5\npress 0 0 0 0 16", "15", "15", "15", "15", "15", "15", "15", "15", "14", "15")
}

// TestPressKept: P28.1: what is pressed stands in what is saved.
func TestPressKept(t *testing.T) {
	image := asksPads()
	c := inserted(t, image)
	fresh := saved(t, c)
	c.Press([5]pad.Pad{{Keys: 1}, {Keys: 300}, {Keys: 65535}, {Keys: 0}, {Keys: 4096}})
	expect(t, laid(image)+lines("insert", "save", "press 1 300 65535 65536 4096", "save", "press 65536 0 0 0 0", "save"), "ok", fresh, "ok", saved(t, c), "ok", fresh)
}

// TestRun: P28.1: ticks of 0, of less than a sample, of one, and of more, and those behind them.
func TestRun(t *testing.T) {
	expect(t, lines("pages 1", "insert", "run 0", "run 1", "run 453", "run 1", "run 000000000"),
		"ok", "lines 0 samples 0 sum 1", "lines 0 samples 0 sum 1", "lines 0 samples 0 sum 1", "lines 0 samples 1 sum 524289", "lines 0 samples 0 sum 1")
	image := busy(1, 2)
	c := inserted(t, image)
	script, want := laid(image)+"insert\n", []string{"ok"}
	for _, ticks := range []int{7, 455, 1365, 0, 100000, 357630, 1048575, 1} {
		script += fmt.Sprintf("run %d\nsave\n", ticks)
		want = append(want, drawn(c.Run(ticks)), saved(t, c))
	}
	expect(t, script, want...)
}

// TestRunMost: P28.1: runs of just 2^20 ticks, more than one.
func TestRunMost(t *testing.T) {
	image := busy(2, 3)
	c := inserted(t, image)
	first, second := drawn(c.Run(1<<20)), drawn(c.Run(1<<20))
	if !strings.Contains(first, " samples 2304 ") {
		t.Error(first)
	}
	expect(t, laid(image)+lines("insert", "run 1048576", "run 001048576", "save"), "ok", first, second, saved(t, c))
}

// TestFrame: P28.1: whole frames, and the rest of one.
func TestFrame(t *testing.T) {
	// One line of 8 colours, 786 samples: the bytes are all 0, 16 and 786 times 8.
	const zeros = "lines 1 samples 786 sum 413138945"
	expect(t, lines("pages 1", "insert", "frame", "frame"), "ok", zeros, zeros)
	image := busy(1, 4)
	c := inserted(t, image)
	want := []string{"ok", drawn(c.RunFrame()), saved(t, c), drawn(c.RunFrame()), drawn(c.Run(77777)), drawn(c.RunFrame()), saved(t, c), drawn(c.RunFrame())}
	expect(t, laid(image)+lines("insert", "frame", "save", "frame", "run 77777", "frame", "save", "frame"), want...)
}

// TestRegs: P28.1: the registers, each another, in their order, fast and slow.
func TestRegs(t *testing.T) {
	for at, last := range map[string]byte{"fast": 0xd4, "slow": 0x54} {
		image := begin(1, 0xa9, 0x85, 0xa2, 3, 0x9a, 0xa2, 7, 0xa0, 9, 0x38, last)
		expect(t, laid(image)+lines("insert", "regs", "run 1000", "regs"), "ok", "0 0 0 0 4 57344 slow", drawn(inserted(t, image).Run(1000)), "133 7 9 3 5 57355 "+at)
	}
}

// TestRam: P28.1: bytes at both ends, and beyond 8191.
func TestRam(t *testing.T) {
	image := begin(1, slices.Concat(store(0x2000, 11), store(0x2007, 90), store(0x29ff, 33), store(0x3fff, 200))...)
	script, want := laid(image)+"insert\nram 7\nrun 2000\n", []string{"ok", "0", drawn(inserted(t, image).Run(2000))}
	for _, one := range [][2]int{{0, 11}, {7, 90}, {8, 0}, {6, 0}, {0x9ff, 33}, {8191, 200}, {8192, 11}, {8199, 90}, {16383, 200}, {16384, 11}, {81927, 90}, {999999999, 33}} {
		script += fmt.Sprintf("ram %d\n", one[0])
		want = append(want, fmt.Sprint(one[1]))
	}
	expect(t, script+"ram 000000007\n", append(want, "90")...)
}

// TestSave: P28.1: what is saved, at any tick, and that to save changes nothing.
func TestSave(t *testing.T) {
	image := busy(2, 6)
	c := inserted(t, image)
	script, want := laid(image)+"insert\n", []string{"ok"}
	for _, ticks := range []int{1, 6, 1000, 400000} {
		script += fmt.Sprintf("save\nsave\nrun %d\n", ticks)
		sum := saved(t, c)
		want = append(want, sum, sum, drawn(c.Run(ticks)))
	}
	expect(t, script, want...)
}

// TestLoad: P28.1: none ahead of any save; else back to the last save, as often as is asked, whatever was done since.
func TestLoad(t *testing.T) {
	image := busy(1, 7)
	c := inserted(t, image)
	first := drawn(c.Run(400000))
	early := saved(t, c)
	second := drawn(c.Run(50000))
	middle := saved(t, c)
	third := drawn(c.RunFrame())
	expect(t, laid(image)+lines("insert", "load", "run 400000", "load", "save", "run 50000", "load", "save", "run 50000", "save", "frame", "reset", "press 1 2 3 4 5", "load", "frame", "load", "load", "save"),
		"ok", "none", first, "none", early, second, "ok", early, second, middle, third, "ok", "ok", "ok", third, "ok", "ok", middle)
}

// TestLoadOther: P28.1: of a card of another number of pages: an error, and nothing is changed; what is kept stays, too.
func TestLoadOther(t *testing.T) {
	one, two := busy(1, 8), busy(2, 9)
	early := saved(t, behind(t, one, 3000))
	c := behind(t, two, 7000)
	at := c.Core.R
	regs := fmt.Sprintf("%d %d %d %d %d %d fast", at.A, at.X, at.Y, at.S, at.P, at.PC)
	ran, ran2 := drawn(inserted(t, one).Run(3000)), drawn(inserted(t, two).Run(7000))
	further := drawn(c.RunFrame())
	expect(t, laid(one)+lines("insert", "run 3000", "save")+laid(two)+lines("insert", "run 7000", "regs", "load", "regs", "load", "frame")+laid(one)+lines("insert", "load", "save"),
		"ok", ran, early, "ok", ran2, regs, "error 21", regs, "error 21", further, "ok", "ok", early)
}

// TestLoadOtherCard: P28.1: what is loaded goes on with the card of the last insert.
func TestLoadOtherCard(t *testing.T) {
	one, other := begin(1, 0xa9, 1), begin(1, 0xa9, 2, 0xa2, 3)
	ran := drawn(inserted(t, one).Run(100))
	expect(t, laid(one)+lines("insert", "run 100", "save", "regs")+laid(other)+lines("insert", "load", "regs", "run 100", "regs", "reset", "run 100", "regs"),
		"ok", ran, saved(t, behind(t, one, 100)), "1 0 0 0 4 57346 slow", "ok", "ok", "1 0 0 0 4 57346 slow", ran, "1 3 0 0 4 57348 slow", "ok", ran, "2 3 0 0 4 57348 slow")
}

// TestFrames: P28.1: how many frame lines there were ahead, also such that had no console; none that are told in a remark, or stand behind.
func TestFrames(t *testing.T) {
	c := inserted(t, make([]byte, 8192))
	one := drawn(c.RunFrame())
	expect(t, lines("frames", "frame", "frames", "pages 1", "insert", "frames", "frame", "frames", "#frame", "run 5", "frames", "insert", "frames", "frame"),
		"none", "none", "none", "ok", "1", one, "2", "lines 0 samples 0 sum 1", "2", "ok", "2", one)
	expect(t, lines("pages 1", "insert", "frames", "frame", "frame", "frame", "frames", "frames"), "ok", "0", one, one, one, "3", "3")
}

// TestFramesMost: P28.1: just MaxFrames frame lines, with a console and without.
func TestFramesMost(t *testing.T) {
	image := make([]byte, 8192)
	one := drawn(inserted(t, image).RunFrame())
	expect(t, strings.Repeat("frame\n", 64)+lines("pages 1", "insert", "frames"), append(slices.Repeat([]string{"none"}, 64), "ok", "64")...)
	expect(t, lines("pages 1", "insert")+strings.Repeat("frame\n", 64)+"frames", append(append([]string{"ok"}, slices.Repeat([]string{one}, 64)...), "64")...)
}
