package alu

import (
	"math"
	"testing"

	"phosphor/api"
)

const (
	c = api.FlagC
	z = api.FlagZ
	i = api.FlagI
	d = api.FlagD
	b = api.FlagB
	t = api.FlagT
	v = api.FlagV
	n = api.FlagN
)

// modulo and bitOf are reckoned by division alone, so that they share nothing with the masks that are tested.
func modulo(x, m int) int { return (x%m + m) % m }

func bitOf(x, k int) bool {
	for range k {
		x /= 2
	}
	return x%2 == 1
}

// eachBit tells a byte whose bits are told one by one.
func eachBit(bit func(k int) bool) int {
	sum, weight := 0, 1
	for k := range 8 {
		if bit(k) {
			sum += weight
		}
		weight *= 2
	}
	return sum
}

func signed(x int) int {
	if x > 127 {
		return x - 256
	}
	return x
}

// outcome is a result, the flags that are named, and those of them that are set.
type outcome struct{ r, named, set int }

func ofNZ(r int) outcome { return outcome{r: r}.with(n, r >= 128).with(z, r == 0) }

// ofTest is the outcome of what tests m: N and V are its two highest bits.
func ofTest(r, m, out int) outcome {
	return outcome{r: r}.with(n, m >= 128).with(v, m%128 >= 64).with(z, out == 0)
}

func (o outcome) with(flag int, on bool) outcome {
	o.named += flag
	if on {
		o.set += flag
	}
	return o
}

// behind tells p with just the flags that are named.
func (o outcome) behind(p int) int { return p - p&o.named + o.set }

// expected says again what the document asks of an operation of three bytes.
func expected(op, x, m, p int) outcome {
	carry := p % 2
	switch op {
	case Or:
		return ofNZ(eachBit(func(k int) bool { return bitOf(x, k) || bitOf(m, k) }))
	case And:
		return ofNZ(eachBit(func(k int) bool { return bitOf(x, k) && bitOf(m, k) }))
	case Xor:
		return ofNZ(eachBit(func(k int) bool { return bitOf(x, k) != bitOf(m, k) }))
	case Lda:
		return ofNZ(m)
	case Inc:
		return ofNZ(modulo(m+1, 256))
	case Dec:
		return ofNZ(modulo(m-1, 256))
	case Adc, Sbc:
		return expectedSum(op, x, m, carry, p/d%2 == 1)
	case Cmp:
		o := ofNZ(modulo(x-m, 256)).with(c, x >= m)
		o.r = x
		return o
	case Bit:
		met := eachBit(func(k int) bool { return bitOf(x, k) && bitOf(m, k) })
		return ofTest(x, m, met)
	case Tsb:
		r := eachBit(func(k int) bool { return bitOf(x, k) || bitOf(m, k) })
		return ofTest(r, m, r)
	case Trb:
		r := eachBit(func(k int) bool { return bitOf(m, k) && !bitOf(x, k) })
		return ofTest(r, m, r)
	case Asl:
		return ofNZ(m*2%256).with(c, m >= 128)
	case Rol:
		return ofNZ(m*2%256+carry).with(c, m >= 128)
	case Lsr:
		return ofNZ(m/2).with(c, m%2 == 1)
	case Ror:
		return ofNZ(m/2+128*carry).with(c, m%2 == 1)
	}
	return outcome{r: x}
}

// expectedSum tells V by the sum of the signed bytes: it is set just if that sum is no signed byte.
func expectedSum(op, x, m, carry int, decimal bool) outcome {
	switch {
	case op == Adc && decimal:
		return decimalSum(x, m, carry)
	case decimal:
		return decimalRest(x, m, carry)
	case op == Adc:
		s := signed(x) + signed(m) + carry
		return ofNZ((x+m+carry)%256).with(c, x+m+carry > 255).with(v, s < -128 || s > 127)
	}
	s := signed(x) - signed(m) - 1 + carry
	return ofNZ(modulo(x-m-1+carry, 256)).with(c, x-m-1+carry >= 0).with(v, s < -128 || s > 127)
}

func decimalSum(x, m, carry int) outcome {
	l := x%16 + m%16 + carry
	if l > 9 {
		l += 6
	}
	h := x/16 + m/16
	if l > 15 {
		h++
	}
	if h > 9 {
		h += 6
	}
	return ofNZ(h%16*16+l%16).with(c, h > 15)
}

func decimalRest(x, m, carry int) outcome {
	l := x%16 - m%16 - 1 + carry
	h := x/16 - m/16
	if l < 0 {
		h--
		l -= 6
	}
	on := h >= 0
	if h < 0 {
		h -= 6
	}
	return ofNZ(modulo(h, 16)*16+modulo(l, 16)).with(c, on)
}

// edges are bytes at the ends of signs, halves and decimal digits.
func edges() []int {
	return []int{0, 1, 2, 5, 9, 0x0a, 0x0f, 0x10, 0x12, 0x19, 0x3f, 0x40, 0x55, 0x58, 0x7f, 0x80, 0x81, 0x90, 0x99, 0x9a, 0xa0, 0xaa, 0xbf, 0xc0, 0xf0, 0xf6, 0xfa, 0xfe, 0xff}
}

// wide are numbers that are no bytes, on both sides, up to both ends of int.
func wide() []int {
	return []int{256, 257, 383, 384, 511, 512, 65535, 65536, 65704, math.MaxInt32, math.MaxInt32 + 1, math.MaxInt - 255, math.MaxInt - 128, math.MaxInt - 1, math.MaxInt,
		-1, -2, -127, -128, -129, -255, -256, -257, -65536, math.MinInt32, math.MinInt32 - 1, math.MinInt, math.MinInt + 1, math.MinInt + 9, math.MinInt + 128, math.MinInt + 255}
}

func check(test *testing.T, op, x, m, p, r, q int) {
	if gotR, gotQ := Do(op, x, m, p); gotR != r || gotQ != q {
		test.Helper()
		test.Errorf("Do(%d, %x, %x, %x) = %x, %x, not %x, %x", op, x, m, p, gotR, gotQ, r, q)
	}
}

// P2.1.
func TestNZ(test *testing.T) {
	cases := []struct{ p, byte, want int }{
		{0, 0, z}, {0, 1, 0}, {0, 127, 0}, {0, 128, n}, {0, 255, n},
		{n | z, 0, z}, {n | z, 1, 0}, {n | z, 128, n}, {255, 0, 255 - n}, {255, 5, 255 - n - z}, {255, 200, 255 - z},
		{0, 256, z}, {0, -256, z}, {0, -1, n}, {0, -128, n}, {0, -129, 0}, {0, 384, n},
		{256 + c, 1, c}, {-1, 1, 255 - n - z}, {math.MaxInt, math.MinInt, 255 - n}, {math.MinInt, math.MaxInt, n},
	}
	for _, x := range cases {
		if got := NZ(x.p, x.byte); got != x.want {
			test.Errorf("NZ(%d, %d) = %d, not %d", x.p, x.byte, got, x.want)
		}
	}
	for p := range 256 {
		for x := range 256 {
			if got := NZ(p, x); got != ofNZ(x).behind(p) {
				test.Errorf("NZ(%d, %d) = %d", p, x, got)
			}
		}
	}
	for _, p := range wide() {
		for _, x := range wide() {
			if got := NZ(p, x); got != ofNZ(modulo(x, 256)).behind(modulo(p, 256)) {
				test.Errorf("NZ(%d, %d) = %d", p, x, got)
			}
		}
	}
}

// P2.2: the numbers of the operations are the document's.
func TestNumbersOfOperations(test *testing.T) {
	for want, op := range []int{Or, And, Xor, Adc, Sbc, Cmp, Bit, Tsb, Trb, Asl, Rol, Lsr, Ror, Inc, Dec, Lda} {
		if op != want {
			test.Errorf("%d is %d", want, op)
		}
	}
}

// P2.2: what has no carry in it.
func TestDoOfBits(test *testing.T) {
	for _, x := range [][6]int{
		{Or, 0x0f, 0x30, 0, 0x3f, 0}, {Or, 0, 0, n, 0, z}, {Or, 0x80, 1, z | c, 0x81, n | c},
		{And, 0x3c, 0x0f, 0, 0x0c, 0}, {And, 0xf0, 0x0f, n, 0, z}, {And, 0xff, 0x80, z | v, 0x80, n | v},
		{Xor, 0x3c, 0x0f, 0, 0x33, 0}, {Xor, 0xaa, 0xaa, n, 0, z}, {Xor, 0x7f, 0xff, z | d, 0x80, n | d},
		{Lda, 9, 5, n | z, 5, 0}, {Lda, 9, 0, c, 0, z | c}, {Lda, 0, 0x80, 0, 0x80, n},
		{Inc, 9, 5, n | z, 6, 0}, {Inc, 9, 0xff, n, 0, z}, {Inc, 0, 0x7f, c, 0x80, n | c},
		{Dec, 9, 5, n | z, 4, 0}, {Dec, 9, 1, n, 0, z}, {Dec, 0, 0, c, 0xff, n | c}, {Dec, 0, 0x80, v, 0x7f, v},
		{Cmp, 5, 5, 0, 5, z | c}, {Cmp, 6, 5, n | z, 6, c}, {Cmp, 5, 6, c, 5, n}, {Cmp, 0xff, 1, 0, 0xff, n | c}, {Cmp, 0, 0xff, c, 0, 0}, {Cmp, 0, 0xff, c | d | v, 0, d | v},
		{Bit, 1, 0xc2, 0, 1, n | v | z}, {Bit, 2, 0xc2, z, 2, n | v}, {Bit, 0xff, 0x3f, n | v | z, 0xff, 0}, {Bit, 0, 0x40, c, 0, v | z | c}, {Bit, 0x80, 0x80, 0, 0x80, n}, {Bit, 0, 0, n | v, 0, z},
		{Tsb, 0x0f, 0x40, 0, 0x4f, v}, {Tsb, 0xc0, 0x01, n | v, 0xc1, 0}, {Tsb, 0, 0, n | v, 0, z}, {Tsb, 1, 0x80, z, 0x81, n},
		{Trb, 0x0f, 0x4f, 0, 0x40, v}, {Trb, 0xff, 0xc1, 0, 0, n | v | z}, {Trb, 0xc0, 0x3f, n | v | z, 0x3f, 0}, {Trb, 0, 0x80, z | c, 0x80, n | c},
		{Asl, 7, 0x41, 0, 0x82, n}, {Asl, 7, 0x41, c, 0x82, n}, {Asl, 0, 0x80, n | c, 0, z | c}, {Asl, 0, 0x80, 0, 0, z | c},
		{Rol, 7, 0x41, 0, 0x82, n}, {Rol, 7, 0x41, c, 0x83, n}, {Rol, 0, 0x80, n | c, 1, c}, {Rol, 0, 0x80, n, 0, z | c},
		{Lsr, 7, 0x82, n, 0x41, 0}, {Lsr, 7, 0x82, c, 0x41, 0}, {Lsr, 0, 1, c, 0, z | c}, {Lsr, 0, 1, 0, 0, z | c},
		{Ror, 7, 0x82, n, 0x41, 0}, {Ror, 7, 0x82, c, 0xc1, n}, {Ror, 0, 1, c, 0x80, n | c}, {Ror, 0, 1, n, 0, z | c},
	} {
		check(test, x[0], x[1], x[2], x[3], x[4], x[5])
	}
}

// P2.2: sums and what is left, with C and without.
func TestDoOfSums(test *testing.T) {
	for _, x := range [][6]int{
		{Adc, 2, 3, 0, 5, 0}, {Adc, 2, 3, c, 6, 0}, {Adc, 0x7f, 1, 0, 0x80, n | v}, {Adc, 0x7f, 0, c, 0x80, n | v}, {Adc, 0x7f, 0, 0, 0x7f, 0},
		{Adc, 0xff, 0, 0, 0xff, n}, {Adc, 0xff, 0, c, 0, z | c}, {Adc, 0xff, 1, n | v, 0, z | c}, {Adc, 0x80, 0x80, 0, 0, z | c | v}, {Adc, 0x80, 0xff, c, 0x80, n | c}, {Adc, 0x80, 0xff, 0, 0x7f, c | v},
		{Adc, 0xff, 0xff, c, 0xff, n | c}, {Adc, 0x58, 0x46, i | b | t, 0x9e, n | v | i | b | t},
		{Sbc, 5, 3, c, 2, c}, {Sbc, 5, 3, 0, 1, c}, {Sbc, 5, 5, c, 0, z | c}, {Sbc, 5, 5, 0, 0xff, n}, {Sbc, 0x10, 0x20, c, 0xf0, n},
		{Sbc, 0x80, 1, c, 0x7f, c | v}, {Sbc, 0x7f, 0xff, c, 0x80, n | v}, {Sbc, 0x7f, 0xff, 0, 0x7f, 0}, {Sbc, 0x80, 0, 0, 0x7f, c | v}, {Sbc, 0, 0x80, c, 0x80, n | v}, {Sbc, 0, 0xff, 0, 0, z},
		{Sbc, 0x12, 0x05, c | i | b | t, 0x0d, c | i | b | t},
	} {
		check(test, x[0], x[1], x[2], x[3], x[4], x[5])
	}
}

// P2.2: decimal ones, with C and without, also of bytes that are no decimal numbers; V stays, set or not.
func TestDoOfDecimals(test *testing.T) {
	for _, x := range [][6]int{
		{Adc, 0x58, 0x46, d | c, 0x05, d | c}, {Adc, 0x58, 0x46, d, 0x04, d | c}, {Adc, 0x12, 0x34, d, 0x46, d}, {Adc, 0x15, 0x26, d | v, 0x41, d | v},
		{Adc, 0x99, 0, d | c, 0, d | z | c}, {Adc, 0x99, 0x99, d | c, 0x99, d | n | c}, {Adc, 0x79, 1, d, 0x80, d | n}, {Adc, 0x04, 0x05, d, 0x09, d}, {Adc, 0x04, 0x05, d | c, 0x10, d},
		{Adc, 0x0a, 0, d, 0x10, d}, {Adc, 0xa0, 0, d, 0x00, d | z | c}, {Adc, 0xff, 0xff, d | c, 0x55, d | c}, {Adc, 0x0f, 0x0f, d, 0x14, d}, {Adc, 0xff, 0, d, 0x65, d | c}, {Adc, 0xaa, 0, d | c | v, 0x11, d | c | v}, {Adc, 0x0d, 0x0d, d, 0x10, d}, {Adc, 0xfa, 0xfa, d, 0x5a, d | c},
		{Sbc, 0x12, 0x05, d | c, 0x07, d | c}, {Sbc, 0x12, 0x05, d, 0x06, d | c}, {Sbc, 0x46, 0x12, d | c, 0x34, d | c}, {Sbc, 0, 1, d | c, 0x99, d | n}, {Sbc, 0, 0, d, 0x99, d | n}, {Sbc, 0x50, 0x50, d | c | v, 0, d | z | c | v},
		{Sbc, 0x10, 0x20, d | c, 0x90, d | n}, {Sbc, 0x10, 0x20, d, 0x89, d | n}, {Sbc, 0x99, 0x99, d, 0x99, d | n},
		{Sbc, 0x0f, 0x05, d | c, 0x0a, d | c}, {Sbc, 0, 0x0f, d | c, 0x9b, d | n}, {Sbc, 0, 0xf0, d | c, 0xb0, d | n}, {Sbc, 0, 0xff, d, 0xaa, d | n}, {Sbc, 0xff, 0, d | c, 0xff, d | c | n}, {Sbc, 0xa0, 0x01, d | c | v, 0x99, d | c | n | v},
	} {
		check(test, x[0], x[1], x[2], x[3], x[4], x[5])
	}
}

// P2.2: all operations of all bytes, with each of C, D and V.
func TestDoOfAllBytes(test *testing.T) {
	for op := range 16 {
		for x := range 256 {
			for m := range 256 {
				for _, p := range []int{0, c, d, d | c, 255, 255 - c, 255 - d, 255 - d - c} {
					o := expected(op, x, m, p)
					check(test, op, x, m, p, o.r, o.behind(p))
				}
			}
			if test.Failed() {
				return
			}
		}
	}
}

// P2.2: all flags, of bytes at edges.
func TestDoOfAllFlags(test *testing.T) {
	for op := range 16 {
		for _, x := range edges() {
			for _, m := range edges() {
				for p := range 256 {
					o := expected(op, x, m, p)
					check(test, op, x, m, p, o.r, o.behind(p))
				}
			}
			if test.Failed() {
				return
			}
		}
	}
}

// P2.2: the flags that are not named stay, whatever they were.
func TestFlagsThatStay(test *testing.T) {
	named := [16]int{
		Or: n | z, And: n | z, Xor: n | z, Lda: n | z, Inc: n | z, Dec: n | z,
		Adc: n | z | c | v, Sbc: n | z | c | v, Cmp: n | z | c,
		Bit: n | v | z, Tsb: n | v | z, Trb: n | v | z,
		Asl: n | z | c, Rol: n | z | c, Lsr: n | z | c, Ror: n | z | c,
	}
	for op, flags := range named {
		for p := range 256 {
			if (op == Adc || op == Sbc) && p&d != 0 {
				flags &^= v
			}
			for _, x := range edges() {
				for _, m := range edges() {
					if _, q := Do(op, x, m, p); (p^q)&^flags != 0 {
						test.Fatalf("Do(%d, %x, %x, %x) changes %x", op, x, m, p, (p^q)&^flags)
					}
				}
			}
			flags = named[op]
		}
	}
}

// P2.2: of an op that is none.
func TestDoOfNone(test *testing.T) {
	for _, op := range []int{-1, -2, -3, -13, -16, -253, -256, math.MinInt, math.MinInt + 3, 16, 17, 19, 20, 31, 99, 255, 256, 259, 65536, math.MaxInt - 1, math.MaxInt} {
		for _, p := range []int{0, 5, c, d, d | c, n | z, 255} {
			check(test, op, 7, 1, p, 7, p)
			check(test, op, 0, 0xff, p, 0, p)
			check(test, op, 0xff, 0, p, 0xff, p)
		}
		for _, x := range wide() {
			check(test, op, x, 1, 5, modulo(x, 256), 5)
			check(test, op, 7, x, 5, 7, 5)
			check(test, op, 7, 1, x, 7, modulo(x, 256))
		}
	}
}

// P2.2: a, m and p that are no bytes are taken modulo 256.
func TestDoOfWideNumbers(test *testing.T) {
	all := append(wide(), 0, 5, 0x99, 255)
	for op := range 16 {
		for _, x := range all {
			for _, m := range all {
				for _, p := range append(wide(), c, d|c) {
					q := modulo(p, 256)
					o := expected(op, modulo(x, 256), modulo(m, 256), q)
					check(test, op, x, m, p, o.r, o.behind(q))
				}
			}
		}
	}
}

// P2.3: without D. What Adc brings in by C, Sbc takes away if its C is the other one.
func TestAdcThenSbc(test *testing.T) {
	for x := range 256 {
		for m := range 256 {
			for carry := range 2 {
				sum, _ := Do(Adc, x, m, carry)
				if back, _ := Do(Sbc, sum, m, 1-carry); back != x {
					test.Errorf("%x with %x, C %d, and back: %x", x, m, carry, back)
				}
			}
		}
	}
}

// P2.3: decimal sums of decimal numbers, and what is left of them.
func TestDecimalNumbers(test *testing.T) {
	decimal := func(x int) int { return x/10*16 + x%10 }
	for x := range 100 {
		for m := range 100 {
			for carry := range 2 {
				r, p := Do(Adc, decimal(x), decimal(m), d|carry)
				if r != decimal((x+m+carry)%100) || p%2 != (x+m+carry)/100 {
					test.Errorf("%d with %d, C %d: %x, %x", x, m, carry, r, p)
				}
				r, p = Do(Sbc, decimal(x), decimal(m), d|carry)
				rest := x - m - 1 + carry
				if r != decimal(modulo(rest, 100)) || p%2 == 1 != (rest >= 0) {
					test.Errorf("%d less %d, C %d: %x, %x", x, m, carry, r, p)
				}
			}
		}
	}
}
