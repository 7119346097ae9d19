package report

import (
	"strconv"
	"strings"

	"phosphor/api"
)

// Where a script is cut into lines, and a line into words; each is one byte long.
const (
	lineEnd rune = '\n'
	blank   rune = ' '
)

const remark = '#'

// The bounds of what is said in a line.
const (
	mostDigits = 9
	mostHex    = 1024
	mostPages  = 8
	mostTicks  = 1 << 20
)

const hexDigits = "0123456789abcdef"

// action is what a line does.
type action func(p *player)

// reader reads lines; frames is how many frame lines it has read.
type reader struct{ frames int }

// read tells what each line of a script does, and the number of the first one that is wrong; 0: none is.
func read(script string) ([]action, int) {
	var (
		r       reader
		actions []action
	)
	for k, text := range pieces(script, lineEnd) {
		if text == "" || text[0] == remark {
			continue
		}
		do, ok := r.line(text)
		if !ok {
			return nil, k + 1
		}
		actions = append(actions, do)
	}
	return actions, 0
}

// pieces cuts a text at each place of a character, and tells what is between; nothing, where two stand side by side.
func pieces(text string, cut rune) []string {
	var told []string
	from := 0
	for at, one := range text {
		if one == cut {
			told = append(told, text[from:at])
			from = at + 1
		}
	}
	return append(told, text[from:])
}

// line tells what a line does; false: it is none.
func (r *reader) line(text string) (action, bool) {
	words := pieces(text, blank)
	name, rest := words[0], words[1:]
	if name == "at" {
		return layAt(rest)
	}
	n, ok := numbers(rest)
	if !ok || len(n) != wanted(name) {
		return nil, false
	}
	switch name {
	case "pages":
		return func(p *player) { p.image = make([]byte, n[0]*api.PageSize) }, n[0] >= 1 && n[0] <= mostPages
	case "insert":
		return func(p *player) { p.insert() }, true
	case "reset":
		return ask(func(p *player) { p.reset() }), true
	case "press":
		return ask(func(p *player) { p.press(n) }), true
	case "run":
		return ask(func(p *player) { p.printFrame(p.console.Run(n[0])) }), n[0] <= mostTicks
	case "frame":
		r.frames++
		return ask(func(p *player) { p.printFrame(p.console.RunFrame()) }), r.frames <= api.MaxFrames
	case "regs":
		return ask(func(p *player) { p.printRegisters() }), true
	case "ram":
		return ask(func(p *player) { p.printRam(n[0]) }), true
	case "save":
		return ask(func(p *player) { p.save() }), true
	case "load":
		return ask(func(p *player) { p.load() }), true
	case "frames":
		ahead := r.frames
		return ask(func(p *player) { p.print(strconv.Itoa(ahead)) }), true
	}
	return nil, false
}

// wanted tells how many numbers stand behind a line's first word.
func wanted(name string) int {
	switch name {
	case "pages", "run", "ram":
		return 1
	case "press":
		return api.Pads
	}
	return 0
}

// layAt tells what at does, by the words behind it. What does not fit into the image is known only when it is played.
func layAt(words []string) (action, bool) {
	if len(words) != 2 {
		return nil, false
	}
	at, isNumber := number(words[0])
	b, isHex := hexBytes(words[1])
	return func(p *player) { p.lay(at, b) }, isNumber && isHex
}

// ask tells an action that asks for a console first.
func ask(do action) action {
	return func(p *player) {
		if p.console == nil {
			p.print("none")
			return
		}
		do(p)
	}
}

// numbers tells the numbers that words are; false: one is none.
func numbers(words []string) ([]int, bool) {
	told := make([]int, len(words))
	for k, word := range words {
		n, ok := number(word)
		if !ok {
			return nil, false
		}
		told[k] = n
	}
	return told, true
}

func number(word string) (int, bool) {
	// Other than Atoi, ParseUint takes no sign.
	n, err := strconv.ParseUint(word, 10, 64)
	return int(n), err == nil && len(word) <= mostDigits
}

// hexBytes tells the bytes of a word, two digits for each; false: it is none.
func hexBytes(word string) ([]byte, bool) {
	if word == "" || len(word) > mostHex || len(word)%2 != 0 {
		return nil, false
	}
	told := make([]byte, len(word)/2)
	for k := range len(word) {
		digit := strings.IndexByte(hexDigits, word[k])
		if digit < 0 {
			return nil, false
		}
		told[k/2] = told[k/2]<<4 | byte(digit)
	}
	return told, true
}
