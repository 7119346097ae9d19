package state

import (
	"bytes"
	"hash/adler32"
	"math/big"
	"math/rand/v2"
	"testing"
)

// modelSum is the sum by whole numbers: each byte counts once for a, and for b once for itself and for each byte behind it.
func modelSum(b []byte) int {
	plain, weighed := big.NewInt(1), big.NewInt(int64(len(b)))
	for k, one := range b {
		plain.Add(plain, big.NewInt(int64(one)))
		weighed.Add(weighed, big.NewInt(int64(one)*int64(len(b)-k)))
	}
	m := big.NewInt(65521)
	return int(weighed.Mod(weighed, m).Int64()*65536 + plain.Mod(plain, m).Int64())
}

// TestSumFew: P27.1, of no bytes, of one, and of some.
func TestSumFew(t *testing.T) {
	for _, b := range [][]byte{nil, {}} {
		if s := Sum(b); s != 1 {
			t.Errorf("Sum of none is %d", s)
		}
	}
	for v := range 256 {
		if s := Sum([]byte{byte(v)}); s != (v+1)*65536+v+1 {
			t.Errorf("Sum of %d is %d", v, s)
		}
		if s, want := Sum([]byte{byte(v), 200}), (v+1+v+201)*65536+v+201; s != want {
			t.Errorf("Sum of %d and 200 is %d, want %d", v, s, want)
		}
	}
	for _, r := range []struct {
		text string
		want int
	}{{"abc", 0x024d0127}, {"Wikipedia", 0x11e60398}, {"PHOS\x01", 0x0449013c}} {
		if s := Sum([]byte(r.text)); s != r.want {
			t.Errorf("Sum of %q is %x, want %x", r.text, s, r.want)
		}
	}
}

// TestSumRound: P27.1, both numbers come round at 65521, and not before: a first, with bytes that bring it to just there.
func TestSumRound(t *testing.T) {
	fill := bytes.Repeat([]byte{255}, 256) // a is 65281 behind them
	for v := 230; v < 256; v++ {
		b := append(bytes.Clone(fill), byte(v))
		a := 65281 + v
		if a >= 65521 {
			a -= 65521
		}
		if s := Sum(b); s%65536 != a || s != modelSum(b) {
			t.Errorf("Sum of 256 of 255 and %d is %x, want %x", v, s, modelSum(b))
		}
	}
	zeros := func(n int) []byte { return make([]byte, n) } // a stays 1, b counts
	for _, n := range []int{65519, 65520, 65521, 65522, 131041, 131042, 131043} {
		if s, want := Sum(zeros(n)), n%65521*65536+1; s != want {
			t.Errorf("Sum of %d zeros is %x, want %x", n, s, want)
		}
	}
}

// TestSumMany: P27.1, of many bytes, of the greatest and of any.
func TestSumMany(t *testing.T) {
	r := rand.New(rand.NewPCG(1, 27))
	for _, n := range []int{2, 3, 255, 256, 257, 5551, 5552, 5553, 65520, 65521, 65536, 78093, 300000} {
		greatest, any := bytes.Repeat([]byte{255}, n), make([]byte, n)
		for k := range any {
			any[k] = byte(r.IntN(256))
		}
		for _, b := range [][]byte{greatest, any} {
			if s := Sum(b); s != modelSum(b) || s != int(adler32.Checksum(b)) {
				t.Errorf("Sum of %d bytes is %x, want %x", n, s, modelSum(b))
			}
		}
	}
}

// TestSumOrder: P27.1, bytes in another order have another sum, of which a is the same.
func TestSumOrder(t *testing.T) {
	r := rand.New(rand.NewPCG(2, 27))
	b := make([]byte, 500)
	for k := range b {
		b[k] = byte(r.IntN(256))
	}
	before := Sum(b)
	for range 200 {
		i, k := r.IntN(len(b)), r.IntN(len(b))
		if b[i] == b[k] {
			continue
		}
		b[i], b[k] = b[k], b[i]
		if s := Sum(b); s == before || s%65536 != before%65536 || s != modelSum(b) {
			t.Errorf("bytes %d and %d changed places: %x, before %x", i, k, s, before)
		}
		b[i], b[k] = b[k], b[i]
	}
	if one, other := Sum([]byte{1, 2}), Sum([]byte{2, 1}); one != 6<<16+4 || other != 7<<16+4 {
		t.Errorf("of 1 and 2 it is %x, of 2 and 1 %x", one, other)
	}
}

// TestSumHandedIn: P27.1, what is handed in is not changed, and what lies behind its length is not read.
func TestSumHandedIn(t *testing.T) {
	all := []byte("abcdefgh")
	before := Sum(all[:3])
	copy(all[3:], "zzzzz")
	if Sum(all[:3]) != before || before != 0x024d0127 || string(all) != "abczzzzz" {
		t.Errorf("Sum is %x, behind it %q", Sum(all[:3]), all)
	}
}
