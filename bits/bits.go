// Package bits is layer 1: bytes and words. See shared/doc/01-bits.md.
package bits

const (
	byteBits = 8
	wordBits = 16
)

// Byte and Word tell a number's lowest 8, or 16, bits, as a number from 0 on.
// A mask is taken, not %, because % of a number below 0 is not from 0 on.
func Byte(n int) int { return n & (1<<byteBits - 1) }
func Word(n int) int { return n & (1<<wordBits - 1) }

// Join tells the word of two bytes; Split the bytes of one.
func Join(low, high int) int      { return together(Byte(low), Byte(high)<<byteBits) }
func Split(w int) (low, high int) { return Byte(w), Byte(w >> byteBits) }

// Signed tells a byte as a number from -128 to 127.
func Signed(b int) int {
	n := Byte(b)
	if n >= 1<<(byteBits-1) {
		return n - 1<<byteBits
	}
	return n
}

// Bit tells a bit of a number, from 0 to 15; Put a number with it set, or not.
func Bit(n, k int) int {
	if !inWord(k) {
		return 0
	}
	return Word(n) >> k & 1
}

func Put(n, k int, on bool) int {
	if !inWord(k) {
		return Word(n)
	}
	others := Word(n) &^ (1 << k)
	if on {
		return together(others, 1<<k)
	}
	return others
}

// Reverse tells a byte with its bits the other way round; Ones how many bits of a word are set.
func Reverse(b int) int {
	var moved [byteBits]int
	for k := range byteBits {
		moved[k] = Bit(b, k) << (byteBits - 1 - k)
	}
	return together(moved[:]...)
}

func Ones(w int) int {
	count := 0
	for k := range wordBits {
		count += Bit(w, k)
	}
	return count
}

// inWord is asked ahead of each shift, because a shift by less than 0 panics.
func inWord(k int) bool { return k >= 0 && k < wordBits }

// together tells the number that has the bits of all parts.
func together(parts ...int) int {
	all := 0
	for _, part := range parts {
		all |= part
	}
	return all
}
