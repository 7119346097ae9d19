package report

import (
	"fmt"
	"strings"
	"testing"

	"phosphor/api"
)

// never are lines that are none, whatever is said of numbers.
var never = []string{
	// no such word
	"x", "X", "Regs", "INSERT", "reg", "regss", "framess", "frame#", "pages1", "run5", "at0 00", "0", "1 2", "-", "none", "ok", "Ram 1", "page 1", "press1 2 3 4 5", "ínsert",
	// ends of lines, and blanks of other kinds
	"\r", "regs\r", "\tregs", "regs\t", "run\t5", "run 5\r", "regs\x00", "\x00", "regs\v", "run\u00a05", "regs\u2028", "\xff", "regs\xff",
	// bytes 32 at the beginning, at the end, and two
	" ", "  ", " regs", "regs ", "  regs", "regs  ", " #", " # regs", "run  5", "run 5 ", " run 5", "at 0  00", "at  0 00", "at 0 00 ", " at 0 00", "at 0 ", "at  00", "press 1 2  3 4 5", "press 1 2 3 4 5 ", "press 1 2 3 4 ", "pages 1 ", "pages  1", "ram 1 ", "frame ", "insert  ", "save ", "load ", "reset ", "frames ",
	// too few words
	"pages", "at", "at 0", "press", "press 1", "press 1 2 3 4", "run", "ram", "pages ", "run ", "ram ", "press ",
	// too many words
	"pages 1 1", "at 0 00 00", "at 0 00 0", "insert 1", "insert x", "reset 0", "press 1 2 3 4 5 6", "run 1 1", "frame 1", "regs 1", "ram 1 1", "save 1", "load 1", "frames 1", "frame frame", "run 5 # five", "regs #",
}

// noNumbers are no numbers.
var noNumbers = []string{"-1", "+1", "-0", "+0", "1.", "1.0", ".1", "1e3", "0x1", "0b1", "1_0", "1,0", "0000000001", "1234567890", "4294967297", "18446744073709551617", strings.Repeat("0", 40), "a", "1a", "a1", "ff", "١", "²", "1²", "\x00", "1\x00", "1\r", "1\t", "\t1", "#", "1#", "x"}

// noHex are no HEX.
var noHex = []string{"", "0", "f", "000", "0A", "A0", "FF", "aF", "0g", "g0", "-1", "+1", "0x", "0x00", "0_", "é", "0é", "00\r", "\t0", "\x000", "#0", "0/", "0:", "`0", "0@", strings.Repeat("0", 1023), strings.Repeat("0", 1025), strings.Repeat("0", 1026), strings.Repeat("0f", 5000)}

// wrongAlike holds a line to be none: by itself, with its end and without, as a third line, and ahead of others that would be some.
func wrongAlike(t *testing.T, line string) {
	t.Helper()
	wrong(t, line, 1)
	wrong(t, line+"\n", 1)
	wrong(t, "pages 1\ninsert\n"+line, 3)
	wrong(t, "pages 1\ninsert\nregs\n"+line+"\nregs\n", 4)
	wrong(t, line+"\npages 1\ninsert\n", 1)
}

// TestNoLine: P28.3: no such word, too few words or too many, and bytes 32 and others where they may not be.
func TestNoLine(t *testing.T) {
	for _, line := range never {
		wrongAlike(t, line)
	}
}

// TestNoNumber: P28.3, of each number of each line.
func TestNoNumber(t *testing.T) {
	for _, n := range append(noNumbers, "") {
		for _, form := range []string{"pages %s", "run %s", "ram %s", "at %s 00", "press %s 0 0 0 0", "press 0 %s 0 0 0", "press 0 0 %s 0 0", "press 0 0 0 %s 0", "press 0 0 0 0 %s"} {
			wrongAlike(t, fmt.Sprintf(form, n))
		}
	}
}

// TestNoHex: P28.3.
func TestNoHex(t *testing.T) {
	for _, digits := range noHex {
		wrongAlike(t, "at 0 "+digits)
		wrongAlike(t, "at 999999999 "+digits)
	}
	for b := range 256 {
		if strings.IndexByte("0123456789abcdef\n", byte(b)) < 0 {
			wrongAlike(t, "at 0 0"+string([]byte{byte(b)}))
			wrongAlike(t, "at 0 "+string([]byte{byte(b)})+"0")
		}
	}
}

// TestBeyond: P28.3: pages and runs beyond what is said.
func TestBeyond(t *testing.T) {
	for _, line := range []string{"pages 0", "pages 00", "pages 9", "pages 10", "pages 000000000", "pages 000000009", "pages 257", "pages 999999999", "run 1048577", "run 001048577", "run 2097152", "run 4194304", "run 999999999"} {
		wrongAlike(t, line)
	}
}

// TestJustWithin: P28.3: lines that are some, at the bounds of what is said.
func TestJustWithin(t *testing.T) {
	for line, want := range map[string]string{
		"pages 1": "", "pages 8": "", "pages 000000001": "", "pages 000000008": "",
		"at 0 00": "", "at 000000000 00": "", "at 999999999 ff": "", "at 0 0123456789abcdef": "",
		"at 0 " + strings.Repeat("0", 1024): "", "at 0 " + strings.Repeat("f9", 511): "",
		"insert": "error 10\n",
		"run 0":  "none\n", "run 000000000": "none\n", "run 1048576": "none\n", "run 001048576": "none\n",
		"ram 0": "none\n", "ram 999999999": "none\n", "ram 123456789": "none\n",
		"press 0 0 0 0 0": "none\n", "press 999999999 999999999 999999999 999999999 000000000": "none\n",
	} {
		for _, script := range []string{line, line + "\n", "\n" + line + "\n\n"} {
			if s := played(t, script); s != want {
				t.Errorf("%.60q: %q", script, s)
			}
		}
	}
}

// TestBig: P28.3: MaxScript bytes, and one more, whatever the lines are.
func TestBig(t *testing.T) {
	tooBig := func(script string) {
		t.Helper()
		if s, at, e := Play(script); s != "" || at != 0 || e != api.ErrBig {
			t.Errorf("%d bytes, %.20q: %q, line %d, error %d", len(script), script, s, at, int(e))
		}
	}
	for _, fill := range []string{"#", "\n", "regs\n", "#regs\n", "pages 1\ninsert\n", "x", "x\n", "pages 9\n"} {
		full := strings.Repeat(fill, 65536/len(fill)+1)[:65536]
		tooBig(full + "\n")
		tooBig(full + "#")
		tooBig(full + full)
		tooBig("#" + full)
	}
	expect(t, strings.Repeat("#", 65536))
	expect(t, strings.Repeat("\n", 65536))
	expect(t, strings.Repeat("#\n", 32766)+"regs", "none")
	expect(t, strings.Repeat("\n", 65532)+"regs", "none")
	wrong(t, strings.Repeat("\n", 65535)+"x", 65536)
	wrong(t, "x"+strings.Repeat("\n", 65535), 1)
	wrong(t, strings.Repeat("#", 65534)+"\nx", 2)
}

// TestFrameTooMany: P28.3: the frame line behind MaxFrames others, with a console and without, and with other lines between.
func TestFrameTooMany(t *testing.T) {
	wrong(t, strings.Repeat("frame\n", 65), 65)
	wrong(t, strings.Repeat("frame\n", 64)+"frame", 65)
	wrong(t, strings.Repeat("frame\n", 200), 65)
	wrong(t, "pages 1\ninsert\n"+strings.Repeat("frame\n", 65), 67)
	wrong(t, strings.Repeat("frame\n\n#frame\nframes\n", 65), 257)
	wrong(t, strings.Repeat("frame\n", 65)+"x", 65)
	wrong(t, strings.Repeat("frame\n", 64)+"x\nframe", 65)
	wrong(t, strings.Repeat("frame\n", 64)+"run 1048577\nframe", 65)
	wrong(t, strings.Repeat("frame\n", 30)+"insert\npages 2\ninsert\n"+strings.Repeat("frame\n", 35), 68)
}

// TestFirst: P28.3: of lines that are none, the first one; empty lines and remarks are counted.
func TestFirst(t *testing.T) {
	for script, line := range map[string]int{
		"x\ny":                         1,
		"regs\nx\ny":                   2,
		"pages 9\nx":                   1,
		"run 1048577\nat 0 0\npages 0": 1,
		"insert\nat 0 0\nrun 1048577":  2,
		"\n\n\nx":                      4,
		"#x\n#\n\nx\n":                 4,
		"#\npages 1\n\ninsert\n# that is it\nx\n": 6,
		"regs\nregs ":    2,
		"regs\nx":        2,
		"regs\n\n\n\n x": 5,
	} {
		wrong(t, script, line)
	}
	var s strings.Builder
	for k := range 3000 {
		wrong(t, s.String()+"x\n", k+1)
		s.WriteString([]string{"regs\n", "\n", "#\n", "ram 1\n"}[k%4])
	}
}

// TestLastLine: P28.1 and P28.3: a line behind the last byte 10 counts, as those ahead of it do.
func TestLastLine(t *testing.T) {
	expect(t, "regs", "none")
	expect(t, "regs\nregs", "none", "none")
	expect(t, "pages 1\ninsert\nregs", "ok", "0 0 0 0 4 0 slow")
	expect(t, "regs\n#", "none")
	wrong(t, "regs\nreg", 2)
}

// TestNothingPrinted: P28.3: nothing is printed, also where the lines ahead would print much.
func TestNothingPrinted(t *testing.T) {
	ahead := laid(busy(1, 11)) + lines("insert", "regs", "save", "run 1000", "frame", "frames", "load")
	if s := played(t, ahead); strings.Count(s, "\n") != 7 {
		t.Error(s)
	}
	wrong(t, ahead+"x", strings.Count(ahead, "\n")+1)
	wrong(t, ahead+"pages 9\n", strings.Count(ahead, "\n")+1)
}
