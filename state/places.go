package state

import (
	"phosphor/bus"
	"phosphor/console"
	"phosphor/psg"
)

// parts are a console, and what no field of it can be set to tell: how many pages its card has, and what Ports tells of its video memory.
type parts struct {
	*console.Console
	pages int
	ports [5]int
}

func partsOf(c *console.Console) *parts {
	write, read, step, low, buffer := c.Bus.Vram.Ports()
	return &parts{Console: c, pages: c.Bus.Card.Pages(), ports: [5]int{write, read, step, low, buffer}}
}

// place is where a number stands, or a bool, that is one too: just one of both is not nil.
type place struct {
	number *int
	truth  *bool
}

// told tells the number there; set puts one there, and tells false, where there is no such bool.
func (p place) told() int {
	switch {
	case p.number != nil:
		return *p.number
	case *p.truth:
		return 1
	}
	return 0
}

func (p place) set(n int) bool {
	if p.number != nil {
		*p.number = n
		return true
	}
	*p.truth = n == 1
	return n == 0 || n == 1
}

// gather puts places behind those that there are: of numbers, of a whole list of them, and of bools.
type gather struct {
	numbers func(at ...*int)
	list    func(all []int)
	truths  func(at ...*bool)
}

// places tells where all numbers of a state stand, in their order.
func places(p *parts) []place {
	all := make([]place, 0, numbers)
	var to gather
	to.numbers = func(at ...*int) {
		for _, one := range at {
			all = append(all, place{number: one})
		}
	}
	to.list = func(list []int) {
		for k := range list {
			to.numbers(&list[k])
		}
	}
	to.truths = func(at ...*bool) {
		for _, one := range at {
			all = append(all, place{truth: one})
		}
	}
	to.numbers(&p.pages)
	to.processor(p.Console)
	to.ports(p.Bus)
	to.picture(p.Bus)
	to.sound(&p.Bus.Psg)
	to.list(p.ports[:])
	return all
}

// processor, ports, picture and sound gather the places of what they are named by.
func (to gather) processor(c *console.Console) {
	r, g := &c.Core.R, &c.Geometry
	to.numbers(&r.A, &r.X, &r.Y, &r.S, &r.P, &r.PC)
	to.truths(&c.Core.Fast)
	to.numbers(&c.Core.Last, &c.Tick, &c.Wait, &c.Back)
	to.numbers(&g.Width, &g.Top, &g.Bottom, &g.Blank, &g.Lines)
}

func (to gather) ports(b *bus.Bus) {
	to.numbers(&b.Latch)
	to.list(b.File[:])
	to.numbers(&b.Hold)
	to.truths(&b.Port.Sel, &b.Port.Clr, &b.Port.Second)
	to.numbers(&b.Port.Index)
	for k := range b.Pads {
		to.numbers(&b.Pads[k].Keys)
		to.truths(&b.Pads[k].Six)
	}
	to.numbers(&b.Timer.Reload, &b.Timer.Count)
	to.truths(&b.Timer.On)
	to.numbers(&b.Timer.Pre, &b.Irq.Mask, &b.Irq.Lines)
}

func (to gather) picture(b *bus.Bus) {
	to.numbers(&b.Regs.Sel)
	to.list(b.Regs.R[:])
	to.numbers(&b.Status)
	to.truths(&b.Wait, &b.Moved)
	to.list(b.Table[:])
	to.numbers(&b.Vce.Control, &b.Vce.Addr)
	to.list(b.Vce.Table[:])
}

func (to gather) sound(p *psg.Psg) {
	to.numbers(&p.Sel, &p.Main, &p.LfoFreq, &p.LfoControl)
	for k := range p.C {
		c := &p.C[k]
		to.numbers(&c.Freq, &c.Control, &c.Balance, &c.Noise, &c.Index, &c.Acc, &c.Rand, &c.Dda)
		to.list(c.Wave[:])
	}
}
