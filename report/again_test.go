package report

import (
	"math/rand/v2"
	"strings"
	"sync"
	"testing"
)

// between are lines that are none.
var between = []string{"", "#", "##", "# a remark", "#frame", "#x\x00\xff \té", "# pages 9", "#" + strings.Repeat("-", 300)}

// spread lays lines that are none between those of a script, and tells how many were laid ahead of each one.
func spread(r *rand.Rand, script string) (string, []int) {
	var s strings.Builder
	var ahead []int
	many := 0
	for _, line := range strings.SplitAfter(script, "\n") {
		for range r.IntN(4) {
			s.WriteString(between[r.IntN(len(between))] + "\n")
			many++
		}
		s.WriteString(line)
		ahead = append(ahead, many)
	}
	return s.String(), ahead
}

// alike holds a script to be played alike twice, and also with lines that are none laid between, but for the number of the line that is wrong.
func alike(t *testing.T, r *rand.Rand, script string) {
	t.Helper()
	s, at, e := Play(script)
	if s2, at2, e2 := Play(script); s != s2 || at != at2 || e != e2 {
		t.Errorf("%.300q: %.300q %d %d, and then %.300q %d %d", script, s, at, int(e), s2, at2, int(e2))
	}
	other, ahead := spread(r, script)
	want := at
	if at > 0 {
		want += ahead[at-1]
	}
	if s2, at2, e2 := Play(other); s != s2 || want != at2 || e != e2 {
		t.Errorf("%.300q: %.300q %d %d, but spread %.300q %d %d, not line %d", script, s, at, int(e), s2, at2, int(e2), want)
	}
}

// kinds are scripts of each kind.
func kinds() []string {
	image := laid(busy(1, 12))
	all := []string{
		"", "#", "\n", "pages 1\ninsert\nregs\n", "pages 3\ninsert\nregs", "insert\nframes", "pages 1\nat 8191 e0ff\nat 8192 ff\ninsert\nregs\n",
		image + lines("insert", "run 1000", "regs", "ram 7", "reset", "regs", "press 1 2 3 4 5", "run 100000", "save", "frame", "frame", "frames", "load", "frame", "ram 10"),
		image + lines("insert", "frame", "save") + laid(busy(2, 13)) + lines("insert", "load", "frame", "load", "regs", "save"),
		"pages 1\npages 9\npages 9", "x", "regs\nx\n", "at 0 0", "run 1048577", strings.Repeat("frame\n", 64), strings.Repeat("frame\n", 65), "frame 1", " regs", "regs\n ",
	}
	for _, one := range asking {
		all = append(all, one, image+"insert\n"+one+"\n"+one)
	}
	return append(append(all, never...), strings.Repeat("ram 7\n", 300))
}

// TestAlike: P28.4, of each kind of script.
func TestAlike(t *testing.T) {
	r := rand.New(rand.NewPCG(28, 4))
	for _, script := range kinds() {
		alike(t, r, script)
	}
}

// TestAlikeAny: P28.4, of scripts of any lines, some of them with a line that is none.
func TestAlikeAny(t *testing.T) {
	r := rand.New(rand.NewPCG(28, 5))
	for k := range 60 {
		script := anyScript(r, 25)
		if k%3 == 0 {
			script += never[r.IntN(len(never))] + "\n" + anyScript(r, 3)
		}
		alike(t, r, script)
	}
}

// TestApart: P28.4: what is played beside it, or ahead of it, changes nothing.
func TestApart(t *testing.T) {
	all := kinds()
	want := make([]string, len(all))
	for k, script := range all {
		want[k], _, _ = Play(script)
	}
	got := make([]string, len(all))
	var group sync.WaitGroup
	for k := range all {
		group.Go(func() { got[k], _, _ = Play(all[k]) })
	}
	group.Wait()
	for k := range all {
		if got[k] != want[k] {
			t.Errorf("%.200q: %.300q, not %.300q", all[k], got[k], want[k])
		}
	}
}
