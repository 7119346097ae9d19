package report

import (
	"strconv"
	"strings"

	"phosphor/api"
	"phosphor/card"
	"phosphor/console"
	"phosphor/pad"
	"phosphor/state"
)

// player is what a script has while it is played: an image, the card of the last insert, the console, and a state that was saved, each of them once there is one; and what was printed.
type player struct {
	image   []byte
	card    *card.Card
	console *console.Console
	saved   []byte
	printed strings.Builder
}

// print prints a line of words.
func (p *player) print(words ...string) {
	p.printed.WriteString(strings.Join(words, " "))
	p.printed.WriteByte('\n')
}

// printOutcome prints how it went with what may fail.
func (p *player) printOutcome(e api.Errno) {
	if e != api.OK {
		p.print("error", strconv.Itoa(int(e)))
		return
	}
	p.print("ok")
}

func (p *player) lay(at int, b []byte) {
	if at < len(p.image) {
		copy(p.image[at:], b)
	}
}

func (p *player) insert() {
	c, e := card.Load(p.image)
	p.card, p.console = c, console.New(c) // of no card there is no console
	p.printOutcome(e)
}

func (p *player) reset() {
	p.console.Reset()
	p.print("ok")
}

// press is handed as many keys as there are pads.
func (p *player) press(keys []int) {
	var pads [api.Pads]pad.Pad
	for k, pressed := range keys {
		pads[k].Keys = pressed
	}
	p.console.Press(pads)
	p.print("ok")
}

func (p *player) printFrame(f console.Frame) {
	p.print("lines", strconv.Itoa(len(f.Lines)), "samples", strconv.Itoa(len(f.Samples)), "sum", strconv.Itoa(Picture(f)))
}

func (p *player) printRegisters() {
	core := p.console.Core
	speed := "slow"
	if core.Fast {
		speed = "fast"
	}
	r := core.R
	p.print(strconv.Itoa(r.A), strconv.Itoa(r.X), strconv.Itoa(r.Y), strconv.Itoa(r.S), strconv.Itoa(r.P), strconv.Itoa(r.PC), speed)
}

func (p *player) printRam(at int) {
	memory := &p.console.Bus.Ram
	p.print(strconv.Itoa(int(memory[at%len(memory)])))
}

func (p *player) save() {
	p.saved, _ = state.Encode(p.console) // a console that a card gave, or a state, stays one that is encoded
	p.print("saved", strconv.Itoa(state.Sum(p.saved)))
}

// load keeps the console that there is, where there is no state, or one of another card.
func (p *player) load() {
	if p.saved == nil {
		p.print("none")
		return
	}
	c, e := state.Decode(p.card, p.saved)
	if e == api.OK {
		p.console = c
	}
	p.printOutcome(e)
}
