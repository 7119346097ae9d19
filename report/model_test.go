package report

import (
	"encoding/hex"
	"fmt"
	"hash/adler32"
	"math/rand/v2"
	"regexp"
	"strconv"
	"strings"
	"testing"

	"phosphor/api"
	"phosphor/card"
	"phosphor/console"
	"phosphor/pad"
	"phosphor/state"
)

// formed are the lines that are some, by their form; other bounds are asked behind it.
var formed = regexp.MustCompile(`^(pages 0{0,8}[1-8]|at [0-9]{1,9} ([0-9a-f][0-9a-f])+|insert|reset|press( [0-9]{1,9}){5}|(run|ram) [0-9]{1,9}|frame|regs|save|load|frames)$`)

// model plays scripts by the chapter's words: line by line, with a console of its own, and takes back what it printed where a line is none.
type model struct {
	image  []byte
	card   *card.Card
	now    *console.Console
	saved  []byte
	frames int
	out    strings.Builder
}

func modelPlay(script string) (string, int, api.Errno) {
	if len(script) > 65536 {
		return "", 0, 3
	}
	all := strings.Split(script, "\n")
	frames := 0
	for k, text := range all {
		if text == "" || strings.HasPrefix(text, "#") {
			continue
		}
		if text == "frame" {
			frames++
		}
		ran, _ := strings.CutPrefix(text, "run ")
		n, _ := strconv.Atoi(ran)
		digits := len(text[strings.LastIndex(text, " ")+1:])
		if !formed.MatchString(text) || digits > 1024 || frames > 64 || n > 1048576 {
			return "", k + 1, 30
		}
	}
	m := &model{}
	for _, text := range all {
		if text != "" && !strings.HasPrefix(text, "#") {
			m.play(text)
		}
	}
	return m.out.String(), 0, 0
}

// play plays a line that is one.
func (m *model) play(text string) {
	words := strings.Fields(text)
	var n [6]int
	for k, word := range words {
		n[k], _ = strconv.Atoi(word)
	}
	if words[0] == "frame" {
		m.frames++
	}
	switch words[0] {
	case "pages":
		m.image = make([]byte, n[1]*8192)
		return
	case "at":
		b, _ := hex.DecodeString(words[2])
		for k, one := range b {
			if n[1]+k < len(m.image) {
				m.image[n[1]+k] = one
			}
		}
		return
	case "insert":
		c, e := card.Load(m.image)
		m.card, m.now = c, nil
		if e == api.OK {
			m.now = console.New(c)
		}
		m.ended(e)
		return
	}
	if m.now == nil {
		m.out.WriteString("none\n")
		return
	}
	m.ask(words[0], n)
}

// ask plays a line that asks for a console.
func (m *model) ask(word string, n [6]int) {
	c := m.now
	switch word {
	case "reset":
		c.Reset()
		m.ended(api.OK)
	case "press":
		c.Press([5]pad.Pad{{Keys: n[1]}, {Keys: n[2]}, {Keys: n[3]}, {Keys: n[4]}, {Keys: n[5]}})
		m.ended(api.OK)
	case "run":
		m.drawn(c.Run(n[1]))
	case "frame":
		m.drawn(c.RunFrame())
	case "regs":
		speed := map[bool]string{false: "slow", true: "fast"}[c.Core.Fast]
		r := c.Core.R
		fmt.Fprintln(&m.out, r.A, r.X, r.Y, r.S, r.P, r.PC, speed)
	case "ram":
		fmt.Fprintln(&m.out, c.Bus.Ram[n[1]%8192])
	case "save":
		m.saved, _ = state.Encode(c)
		fmt.Fprintln(&m.out, "saved", adler32.Checksum(m.saved))
	case "load":
		if m.saved == nil {
			m.out.WriteString("none\n")
			return
		}
		back, e := state.Decode(m.card, m.saved)
		if e == api.OK {
			m.now = back
		}
		m.ended(e)
	case "frames":
		fmt.Fprintln(&m.out, m.frames)
	}
}

func (m *model) ended(e api.Errno) {
	if e == api.OK {
		m.out.WriteString("ok\n")
		return
	}
	fmt.Fprintln(&m.out, "error", int(e))
}

func (m *model) drawn(f console.Frame) {
	fmt.Fprintln(&m.out, "lines", len(f.Lines), "samples", len(f.Samples), "sum", modelPicture(f))
}

// modelPicture is Picture by numbers that are whole, and a sum of another make.
func modelPicture(f console.Frame) int {
	var b []byte
	put := func(n, size int) {
		whole := uint64(n) // modulo 2^64, that the others go into
		for range size {
			b = append(b, byte(whole%256))
			whole /= 256
		}
	}
	for _, colours := range f.Lines {
		for _, colour := range colours {
			put(colour, 2)
		}
	}
	for _, sample := range f.Samples {
		put(sample[0], 4)
		put(sample[1], 4)
	}
	return int(adler32.Checksum(b))
}

// anyLine is a line of any kind; now and then it is none.
func anyLine(r *rand.Rand) string {
	switch r.IntN(16) {
	case 0:
		return fmt.Sprint("pages ", []int{1, 1, 1, 2, 2, 3, 8}[r.IntN(7)])
	case 1, 2:
		return fmt.Sprintf("at %d %x", r.IntN(8192), []byte{byte(r.IntN(256)), 0xd4, byte(r.IntN(256))})
	case 3, 4, 5:
		return "insert"
	case 6:
		return "reset"
	case 7:
		return fmt.Sprint("press ", r.IntN(70000), " ", r.IntN(70000), " 0 7 ", r.IntN(99))
	case 8, 9:
		return fmt.Sprint("run ", r.IntN(40000))
	case 10:
		return "frame"
	case 11:
		return "regs"
	case 12:
		return fmt.Sprint("ram ", r.IntN(20000))
	case 13:
		return "save"
	case 14:
		return "load"
	}
	return []string{"frames", "", "#", "# frame", "#regs 5"}[r.IntN(5)]
}

// anyScript is a script of any lines, behind an image or none.
func anyScript(r *rand.Rand, many int) string {
	s := ""
	if r.IntN(4) > 0 {
		s = laid(busy(1+r.IntN(2), r.Uint64())) + "insert\n"
	}
	for range many {
		s += anyLine(r) + "\n"
	}
	return s
}

// hold holds Play against the model.
func hold(t *testing.T, script string) {
	t.Helper()
	s, at, e := Play(script)
	if s2, at2, e2 := modelPlay(script); s != s2 || at != at2 || e != e2 {
		t.Errorf("%.500q: %.500q %d %d, not %.500q %d %d", script, s, at, int(e), s2, at2, int(e2))
	}
}

// TestAny: P28.1, of scripts of any lines.
func TestAny(t *testing.T) {
	r := rand.New(rand.NewPCG(28, 1))
	for range 150 {
		hold(t, anyScript(r, 40))
	}
}

// TestAnyWrong: P28.3, of scripts with any byte changed, left out, or laid in.
func TestAnyWrong(t *testing.T) {
	r := rand.New(rand.NewPCG(28, 3))
	some := []byte(" \n\n#01239aAfgx-+.\r\t\x00\xffé")
	for range 4000 {
		b := []byte{}
		for range 1 + r.IntN(6) {
			b = append(b, anyLine(r)+"\n"...)
		}
		at := r.IntN(len(b))
		one := some[r.IntN(len(some))]
		switch r.IntN(3) {
		case 0:
			b[at] = one
		case 1:
			b = append(b[:at], b[at+1:]...)
		case 2:
			b = append(b[:at], append([]byte{one}, b[at:]...)...)
		}
		hold(t, string(b))
	}
}
