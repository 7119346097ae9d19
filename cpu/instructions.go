package cpu

import (
	"phosphor/alu"
	"phosphor/api"
	"phosphor/bits"
	"phosphor/block"
	"phosphor/irq"
	"phosphor/mode"
	"phosphor/mpr"
	"phosphor/opcode"
)

// Where letters of a name tell something.
const (
	toAt     = 2 // the register, or the flag, that is changed, stored, pushed or compared
	fromAt   = 1 // the register that is copied, or exchanged with the other
	portAt   = 2 // the port's number
	numberAt = 3 // the bit's number; names without one end here
)

// videoPorts are the places on the bus that ST0, ST1 and ST2 write to, whatever the mapping registers are.
var videoPorts = [...]int{0x1fe000, 0x1fe002, 0x1fe003}

// do does the instruction that was read. NOP is none of these, and does nothing.
func (s *step) do() {
	switch name := s.info.Name[:numberAt]; name {
	case "LDA", "LDX", "LDY":
		s.load(s.register(name[toAt]), s.m())
	case "STA", "STX", "STY", "STZ":
		s.store(name[toAt])
	case "ORA", "AND", "EOR", "ADC":
		s.gather(name)
	case "SBC", "CMP", "BIT", "CPX", "CPY", "TST":
		s.weigh(name)
	case "ASL", "ROL", "LSR", "ROR", "INC", "DEC", "TSB", "TRB":
		s.change(func(m int) int { return s.reckon(name, s.R.A, m) })
	case "INX", "INY", "DEX", "DEY":
		r := s.register(name[toAt])
		*r = s.reckon(name, 0, *r)
	case "RMB", "SMB":
		s.change(func(m int) int { return bits.Put(m, s.number(), name == "SMB") })
	case "BBR", "BBS":
		s.branchWhere(bits.Bit(s.m(), s.number()) == 1, name == "BBS")
	case "BPL", "BMI", "BVC", "BVS", "BCC", "BCS", "BNE", "BEQ":
		s.branchByFlag(name)
	case "BRA", "JMP", "JSR", "BSR", "RTS", "RTI", "BRK":
		s.jump(name)
	case "PHA", "PHX", "PHY", "PHP", "PLA", "PLX", "PLY", "PLP":
		s.useStack(name)
	case "TAX", "TAY", "TXA", "TYA", "TSX":
		s.load(s.register(name[toAt]), *s.register(name[fromAt]))
	case "TXS":
		s.R.S = s.R.X
	case "SXY", "SAX", "SAY":
		one, other := s.register(name[fromAt]), s.register(name[toAt])
		*one, *other = *other, *one
	case "CLA", "CLX", "CLY":
		*s.register(name[toAt]) = 0
	case "CLC", "CLD", "CLI", "CLV":
		s.set(flagOf(name[toAt]), false)
	case "SEC", "SED", "SEI", "SET":
		s.set(flagOf(name[toAt]), true)
	case "CSL", "CSH":
		s.Fast = name == "CSH"
	case "TAM", "TMA":
		s.mapping(name)
	case "ST0", "ST1", "ST2":
		s.bus.Write(videoPorts[name[portAt]-'0'], s.operand)
	case "TII", "TDD", "TIN", "TIA", "TAI":
		s.transfer(name)
	}
}

// register tells the register of a letter: X, Y, S or A.
func (s *step) register(letter byte) *int {
	switch letter {
	case 'X':
		return &s.R.X
	case 'Y':
		return &s.R.Y
	case 'S':
		return &s.R.S
	}
	return &s.R.A
}

// flagOf tells the flag of a letter: C, D, I, T or V.
func flagOf(letter byte) int {
	switch letter {
	case 'C':
		return api.FlagC
	case 'D':
		return api.FlagD
	case 'I':
		return api.FlagI
	case 'T':
		return api.FlagT
	}
	return api.FlagV
}

// number tells which bit a name means.
func (s *step) number() int { return int(s.info.Name[numberAt] - '0') }

// m tells the byte that an instruction is about. It is asked for by those alone that read it, because to read a place may change it, and takes time.
func (s *step) m() int {
	switch s.info.Mode {
	case opcode.Imm:
		return s.operand
	case opcode.Acc:
		return s.R.A
	}
	return s.read(s.place)
}

func (s *step) load(register *int, b int) {
	*register = b
	s.R.P = alu.NZ(s.R.P, b)
}

func (s *step) store(letter byte) {
	b := 0
	if letter != 'Z' {
		b = *s.register(letter)
	}
	s.write(s.place, b)
}

// reckon does what the alu has of a name, and tells the result.
func (s *step) reckon(name string, a, m int) int {
	r, p := alu.Do(operation(name), a, m, s.R.P)
	s.R.P = p
	return r
}

// operation tells what the alu calls a name.
func operation(name string) int {
	switch name {
	case "ORA":
		return alu.Or
	case "AND":
		return alu.And
	case "EOR":
		return alu.Xor
	case "ADC":
		return alu.Adc
	case "SBC":
		return alu.Sbc
	case "CMP", "CPX", "CPY":
		return alu.Cmp
	case "BIT", "TST":
		return alu.Bit
	case "TSB":
		return alu.Tsb
	case "TRB":
		return alu.Trb
	case "ASL":
		return alu.Asl
	case "ROL":
		return alu.Rol
	case "LSR":
		return alu.Lsr
	case "ROR":
		return alu.Ror
	case "INC", "INX", "INY":
		return alu.Inc
	}
	return alu.Dec
}

// gather reckons with A, or, behind SET, with memory in its place.
func (s *step) gather(name string) {
	m := s.m()
	if !s.onMemory {
		s.R.A = s.reckon(name, s.R.A, m)
		return
	}
	s.cycles += memoryCycles
	at := zeroPage + s.R.X
	s.write(at, s.reckon(name, s.read(at), m))
}

// weigh reckons with a register, or a mask, and m. Just SBC leaves another A behind it; all others are about the flags alone.
func (s *step) weigh(name string) {
	a := s.R.A
	switch name {
	case "CPX":
		a = s.R.X
	case "CPY":
		a = s.R.Y
	case "TST":
		a = s.mask
	}
	r := s.reckon(name, a, s.m())
	if name == "SBC" {
		s.R.A = r
	}
}

// change hands m to what changes it, and puts what comes back where m was.
func (s *step) change(by func(m int) int) {
	r := by(s.m())
	if s.info.Mode == opcode.Acc {
		s.R.A = r
	} else {
		s.write(s.place, r)
	}
}

// branchByFlag branches where the flag is as the name asks: those that ask for it to be clear fall through to those that ask for it to be set.
func (s *step) branchByFlag(name string) {
	flag, asked := 0, true
	switch name {
	case "BPL":
		asked = false
		fallthrough
	case "BMI":
		flag = api.FlagN
	case "BVC":
		asked = false
		fallthrough
	case "BVS":
		flag = api.FlagV
	case "BCC":
		asked = false
		fallthrough
	case "BCS":
		flag = api.FlagC
	case "BNE":
		asked = false
		fallthrough
	case "BEQ":
		flag = api.FlagZ
	}
	s.branchWhere(s.has(flag), asked)
}

func (s *step) branchWhere(on, asked bool) {
	if on == asked {
		s.cycles += branchCycles
		s.goFar()
	}
}

func (s *step) goFar() { s.R.PC = mode.Target(s.R.PC, s.far) }

// jump goes elsewhere, whatever the flags are. JSR and BSR push the last byte of themselves, and RTS goes on behind it.
func (s *step) jump(name string) {
	switch name {
	case "BRA":
		s.goFar()
	case "JMP":
		s.R.PC = s.place
	case "JSR":
		s.pushWord(s.R.PC - 1)
		s.R.PC = s.place
	case "BSR":
		s.pushWord(s.R.PC - 1)
		s.goFar()
	case "RTS":
		s.R.PC = bits.Word(s.pullWord() + 1)
	case "RTI":
		s.R.P = s.pull()
		s.R.PC = s.pullWord()
	case "BRK":
		s.enter(irq.Break, s.R.PC+1, s.R.P|api.FlagB)
	}
}

func (s *step) useStack(name string) {
	switch name {
	case "PHP":
		s.push(s.R.P | api.FlagB)
	case "PLP":
		s.R.P = s.pull()
	case "PLA", "PLX", "PLY":
		s.load(s.register(name[toAt]), s.pull())
	default:
		s.push(*s.register(name[toAt]))
	}
}

// mapping sets mapping registers, or tells one; the byte that went either way is kept.
func (s *step) mapping(name string) {
	switch {
	case name == "TMA":
		s.R.A = mpr.Tma(s.bus.File, s.operand, s.Last)
		s.Last = s.R.A
	case s.operand != 0:
		s.bus.File = mpr.Tam(s.bus.File, s.operand, s.R.A)
		s.Last = s.R.A
	}
}

// transfer moves a block, byte by byte; nothing breaks it off.
func (s *step) transfer(name string) {
	b := s.behind
	kind, _ := block.Kind(name)
	ends := [2]int{bits.Join(b[0], b[1]), bits.Join(b[2], b[3])}
	for i := range block.Count(bits.Join(b[4], b[5])) {
		from, to := block.Step(kind, i, ends)
		s.write(to, s.read(from))
		s.cycles += byteCycles
	}
}
