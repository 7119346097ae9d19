package state

import (
	"bytes"
	"encoding/binary"
	"fmt"
	"math/rand/v2"
	"slices"
	"testing"

	"phosphor/api"
	"phosphor/console"
	"phosphor/pad"
)

// again encodes a console, decodes that, and encodes it again; told is what was decoded.
func again(t *testing.T, x *console.Console, what string) *console.Console {
	t.Helper()
	b := encoded(t, x)
	y := decoded(t, x.Bus.Card, b)
	expect(t, y, x, what)
	if !console.Valid(y) {
		t.Fatalf("%s: what is decoded is not Valid", what)
	}
	if !bytes.Equal(encoded(t, y), b) {
		t.Fatalf("%s: its bytes are others", what)
	}
	return y
}

// TestAgain: P27.4, behind runs of any programs, presses and resets: the same bytes, the same state, and both go on alike.
func TestAgain(t *testing.T) {
	t.Parallel()
	r := rand.New(rand.NewPCG(4, 27))
	for _, one := range cards(t) {
		x := tour(one.card, r)
		for k := range 3 {
			step := fmt.Sprint(one.what, ", ", k)
			y := again(t, x, step)
			if k == 1 {
				pads := [5]pad.Pad{{Keys: 0x123}, {Keys: 77, Six: true}}
				x.Press(pads)
				y.Press(pads)
			}
			n := 1 + r.IntN(200000)
			expectFrame(t, y.Run(n), x.Run(n), step)
			expect(t, y, x, step+", behind a run")
			expectFrame(t, y.RunFrame(), x.RunFrame(), step)
			expect(t, y, x, step+", behind a frame")
			if k == 2 {
				x.Reset()
				y.Reset()
				expectFrame(t, y.RunFrame(), x.RunFrame(), step)
				expect(t, y, x, step+", behind a reset")
			}
			if r.IntN(2) == 0 {
				x = y // what is decoded is as good
			}
		}
	}
}

// TestAgainShort: P27.4, at each of many ticks in a row.
func TestAgainShort(t *testing.T) {
	x := console.New(program(t, 48, 9))
	x.Run(300000)
	for k := range 150 {
		y := again(t, x, fmt.Sprint("tick ", k))
		expectFrame(t, y.Run(1+k), x.Run(1+k), "a few ticks")
		expect(t, y, x, fmt.Sprint("tick ", k, ", behind"))
	}
}

// anyState are bytes of a state whose numbers are any that may be, with the Geometry and the timer's On of a console.
func anyState(r *rand.Rand, x *console.Console) []byte {
	b := bytesOf(x)
	for k, row := range order(x) {
		n := row.least + r.IntN(row.most-row.least+1)
		switch {
		case row.name == "On" || row.name == "Lines":
			n = row.value()
		case row.name == "Pre" && !x.Bus.Timer.On:
			n = 0
		case row.masked:
			n &= row.most
		}
		binary.LittleEndian.PutUint32(b[firstNumber+4*k:], uint32(n))
	}
	for k := firstWord; k < theSum; k++ {
		b[k] = byte(r.IntN(256))
	}
	return sealed(b)
}

// TestAnyState: P27.4, of any numbers that may be: what is decoded is Valid, its bytes are the same, and it goes on.
func TestAnyState(t *testing.T) {
	t.Parallel()
	r := rand.New(rand.NewPCG(5, 27))
	for k := range 60 {
		what := fmt.Sprint("state ", k)
		x := console.New(program(t, pageCounts[k%len(pageCounts)], uint64(k)))
		x.Bus.Timer.On = k%2 == 0
		g := &x.Geometry
		g.Lines = 262 + r.IntN(2)
		g.Bottom = 3 + r.IntN(g.Lines-2)
		g.Blank = min(g.Bottom, g.Lines-1)
		b := anyState(r, x)
		y := decoded(t, x.Bus.Card, b)
		if !bytes.Equal(encoded(t, y), b) || !bytes.Equal(bytesOf(y), b) {
			t.Fatalf("%s: its bytes are others", what)
		}
		z := again(t, y, what)
		n := 1 + r.IntN(100000)
		expectFrame(t, z.Run(n), y.Run(n), what)
		expect(t, z, y, what)
	}
}

// TestAnyBytes: P27.4 and W4, of bytes that are changed anywhere, with the sum put right: they are refused with ErrForm, just where a number is beyond what it may be; or what is decoded is Valid, and its bytes are these.
func TestAnyBytes(t *testing.T) {
	t.Parallel()
	r := rand.New(rand.NewPCG(6, 27))
	x := rich(t, 8)
	c, b, rows := x.Bus.Card, encoded(t, x), order(x)
	refused := 0
	for range 1500 {
		k := r.IntN(len(rows))
		if r.IntN(2) == 0 {
			k = r.IntN(find(t, rows, "Table 0"))
		}
		own := slices.Clone(b)
		own[firstNumber+4*k+r.IntN(4)] ^= 1 << r.IntN(8)
		own = sealed(own)
		n := int(binary.LittleEndian.Uint32(own[firstNumber+4*k:]))
		right := rows[k].may(n)
		if rows[k].name == "On" {
			right = n == 1 // there is a Pre
		}
		y, e := Decode(c, own)
		if !right {
			refused++
			if e != api.ErrForm || y != nil {
				t.Fatalf("%s of %d: %v", rows[k].name, n, e)
			}
			continue
		}
		if e != api.OK || !console.Valid(y) || !bytes.Equal(encoded(t, y), own) {
			t.Fatalf("%s of %d: %v, or its bytes are others", rows[k].name, n, e)
		}
	}
	if refused < 300 || refused > 1400 {
		t.Errorf("%d were refused", refused)
	}
}

// TestExample: the example of the chapter: a console that New made, and one behind Decode of Encode of it, draw the same frames.
func TestExample(t *testing.T) {
	for _, seed := range []uint64{11, 12, 13} {
		x := console.New(program(t, 1, seed))
		y := again(t, x, "new")
		lines := 0
		for k := range 6 {
			f := x.RunFrame()
			lines += len(f.Lines)
			expectFrame(t, y.RunFrame(), f, fmt.Sprint("frame ", k))
		}
		if lines < 100 {
			t.Errorf("%d lines in all", lines)
		}
		expect(t, y, x, "behind the frames")
	}
	x := console.New(zeros(t, 1))
	y := again(t, x, "zeros")
	expectFrame(t, y.RunFrame(), x.RunFrame(), "zeros")
}
