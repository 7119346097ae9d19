package region

import (
	"math"
	"testing"
)

const onBus = 2097152 // places

func see(t *testing.T, phys int, want Place) {
	t.Helper()
	if got := Where(phys); got != want {
		t.Errorf("Where(%#x) = %v, want %v", phys, got, want)
	}
}

// TestKinds: the numbers that P6.1 gives the kinds.
func TestKinds(t *testing.T) {
	for _, x := range []struct {
		name      string
		got, want int
	}{
		{"Rom", Rom, 0}, {"Ram", Ram, 1}, {"Vdc", Vdc, 2}, {"Vce", Vce, 3}, {"Psg", Psg, 4},
		{"Timer", Timer, 5}, {"Pad", Pad, 6}, {"Irq", Irq, 7}, {"Open", Open, 8},
	} {
		if x.got != x.want {
			t.Errorf("%s = %d, want %d", x.name, x.got, x.want)
		}
	}
}

// TestWhereTable: P6.1 and the chapter's example, written out.
func TestWhereTable(t *testing.T) {
	for _, x := range []struct {
		phys int
		want Place
	}{
		{0x1fe402, Place{3, 0, 2}},
		{0, Place{0, 0, 0}}, {1, Place{0, 0, 1}}, {0x1fff, Place{0, 0, 8191}}, {0x2000, Place{0, 1, 0}}, {0x2005, Place{0, 1, 5}},
		{0xfdfff, Place{0, 126, 8191}}, {0xfe000, Place{0, 127, 0}}, {0xfffff, Place{0, 127, 8191}}, {0x100000, Place{8, 0, 0}}, {0x100001, Place{8, 0, 0}},
		{0x1effff, Place{8, 0, 0}}, {0x1f0000, Place{1, 0, 0}}, {0x1f0007, Place{1, 0, 7}}, {0x1f1fff, Place{1, 0, 8191}},
		{0x1f2000, Place{1, 0, 0}}, {0x1f4001, Place{1, 0, 1}}, {0x1f6007, Place{1, 0, 7}}, {0x1f7fff, Place{1, 0, 8191}}, {0x1f8000, Place{8, 0, 0}},
		{0x1fdfff, Place{8, 0, 0}}, {0x1fe000, Place{2, 0, 0}}, {0x1fe003, Place{2, 0, 3}}, {0x1fe004, Place{2, 0, 0}}, {0x1fe3ff, Place{2, 0, 3}},
		{0x1fe400, Place{3, 0, 0}}, {0x1fe407, Place{3, 0, 7}}, {0x1fe408, Place{3, 0, 0}}, {0x1fe7ff, Place{3, 0, 7}},
		{0x1fe800, Place{4, 0, 0}}, {0x1fe80f, Place{4, 0, 15}}, {0x1fe810, Place{4, 0, 0}}, {0x1fe81f, Place{4, 0, 15}}, {0x1febff, Place{4, 0, 15}},
		{0x1fec00, Place{5, 0, 0}}, {0x1fec01, Place{5, 0, 1}}, {0x1fec02, Place{5, 0, 0}}, {0x1fec03, Place{5, 0, 1}}, {0x1fefff, Place{5, 0, 1}},
		{0x1ff000, Place{6, 0, 0}}, {0x1ff001, Place{6, 0, 0}}, {0x1ff3ff, Place{6, 0, 0}},
		{0x1ff400, Place{7, 0, 0}}, {0x1ff403, Place{7, 0, 3}}, {0x1ff404, Place{7, 0, 0}}, {0x1ff7ff, Place{7, 0, 3}},
		{0x1ff800, Place{8, 0, 0}}, {0x1ffbff, Place{8, 0, 0}}, {0x1ffc00, Place{8, 0, 0}}, {0x1fffff, Place{8, 0, 0}},
	} {
		see(t, x.phys, x.want)
	}
}

// TestWherePages: P6.1, of each page but the ports' at both ends of it, and beside them.
func TestWherePages(t *testing.T) {
	for page := range 255 {
		for _, rest := range []int{0, 1, 2, 1023, 1024, 4095, 4096, 8190, 8191} {
			want := Place{Kind: 8}
			if page < 128 {
				want = Place{Kind: 0, Page: page, At: rest}
			}
			if page == 248 || page == 249 || page == 250 || page == 251 {
				want = Place{Kind: 1, At: rest}
			}
			see(t, page*8192+rest, want)
		}
	}
	see(t, 255*8192, Place{Kind: 2})
	see(t, 255*8192+8191, Place{Kind: 8})
}

// TestWherePorts: P6.1, of each place of page 255, told by counting, where the package divides.
func TestWherePorts(t *testing.T) {
	phys := 255 * 8192
	for _, part := range []struct{ kind, places int }{{2, 4}, {3, 8}, {4, 16}, {5, 2}, {6, 1}, {7, 4}, {8, 1}, {8, 1}} {
		at := 0
		for range 1024 {
			see(t, phys, Place{Kind: part.kind, At: at})
			phys++
			if at++; at == part.places {
				at = 0
			}
		}
	}
	if phys != onBus {
		t.Errorf("the parts end at %d, want %d", phys, onBus)
	}
}

// TestWhereBeyond: P6.1, of numbers that are no place on the bus, and of the last one that is.
func TestWhereBeyond(t *testing.T) {
	for _, phys := range []int{
		-1, -2, -8191, -8192, -8193, -onBus, -onBus - 1, -onBus + 0x1fe402, -onBus + 0x1f0007, -0x1fe402,
		2097151, 2097152, 2097153, onBus + 5, onBus + 0x1f0007, onBus + 0x1fe402, 2*onBus - 1, 2 * onBus, 3*onBus + 0x2005,
		math.MaxInt32, math.MaxInt32 - onBus, math.MinInt32, math.MinInt32 + 0x2005, 1 << 32, 1<<32 + 0x2005, -1 << 32, 1<<40 + 0x1f0007,
		math.MaxInt, math.MaxInt - 1, math.MaxInt - onBus + 1, math.MinInt, math.MinInt + 1, math.MinInt + 0x1fe402,
	} {
		see(t, phys, Place{Kind: 8})
	}
	for d := 1; d <= 20000; d++ {
		see(t, -d, Place{Kind: 8})
		see(t, onBus-1+d, Place{Kind: 8})
		see(t, math.MaxInt-d+1, Place{Kind: 8})
		see(t, math.MinInt+d-1, Place{Kind: 8})
	}
}

// kinds are numbers of kinds, and such as no kind has, with what P6.2 says of them, written out.
var kinds = []struct {
	kind, slow int
	held       bool
}{
	{0, 0, false}, {1, 0, false}, {2, 1, false}, {3, 1, false}, {4, 0, true}, {5, 0, true}, {6, 0, true}, {7, 0, true}, {8, 0, false},
	{-1, 0, false}, {9, 0, false}, {10, 0, false}, {-2, 0, false}, {-3, 0, false}, {-4, 0, false}, {-7, 0, false}, {-8, 0, false},
	{16 + 2, 0, false}, {16 + 4, 0, false}, {256 + 3, 0, false}, {256 + 7, 0, false}, {1<<32 + 2, 0, false}, {1<<32 + 5, 0, false}, {-1<<32 + 3, 0, false}, {-1<<32 + 6, 0, false},
	{math.MaxInt, 0, false}, {math.MaxInt - 1, 0, false}, {math.MinInt, 0, false}, {math.MinInt + 2, 0, false}, {math.MinInt + 4, 0, false},
}

// TestSlow: P6.2.
func TestSlow(t *testing.T) {
	for _, x := range kinds {
		if got := Slow(x.kind); got != x.slow {
			t.Errorf("Slow(%d) = %d, want %d", x.kind, got, x.slow)
		}
	}
}

// TestHeld: P6.2.
func TestHeld(t *testing.T) {
	for _, x := range kinds {
		if got := Held(x.kind); got != x.held {
			t.Errorf("Held(%d) = %v, want %v", x.kind, got, x.held)
		}
	}
}

// TestNoOtherKinds: P6.2, of many numbers that no kind has.
func TestNoOtherKinds(t *testing.T) {
	for d := range 5000 {
		for _, kind := range []int{-1 - d, 9 + d} {
			if Slow(kind) != 0 || Held(kind) {
				t.Errorf("Slow(%d) = %d and Held = %v, want 0 and false", kind, Slow(kind), Held(kind))
			}
		}
	}
}

// mayBe tells whether a place is one of those that P6.1 names.
func mayBe(p Place) bool {
	pages := [...]int{128, 1, 1, 1, 1, 1, 1, 1, 1}
	places := [...]int{8192, 8192, 4, 8, 16, 2, 1, 4, 1}
	if p.Kind < 0 || p.Kind > 8 {
		return false
	}
	return 0 <= p.Page && p.Page < pages[p.Kind] && 0 <= p.At && p.At < places[p.Kind]
}

// TestEachPlace: P6.3, of each place on the bus: it is one of these, and each of these is somewhere, as often as P6.1 says.
func TestEachPlace(t *testing.T) {
	often := map[Place]int{}
	for phys := range onBus {
		p := Where(phys)
		if !mayBe(p) {
			t.Fatalf("Where(%#x) = %v, that is no place", phys, p)
		}
		often[p]++
	}
	if got, want := len(often), 128*8192+8192+4+8+16+2+1+4+1; got != want {
		t.Errorf("%d places, want %d", got, want)
	}
	times := [...]int{1, 4, 256, 128, 64, 512, 1024, 256, 123*8192 + 2048}
	for p, n := range often {
		if n != times[p.Kind] {
			t.Errorf("%v stands %d times on the bus, want %d", p, n, times[p.Kind])
		}
	}
}

// TestNotOneByte: P6.3, of each place on the bus where memory stands: the bytes of cards and of memory are told apart, each just where its page and place show it.
func TestNotOneByte(t *testing.T) {
	first := map[Place]int{}
	for phys := range onBus {
		p := Where(phys)
		if p.Kind != Rom && p.Kind != Ram {
			continue
		}
		at, was := first[p]
		if !was {
			first[p] = phys
			continue
		}
		if p.Kind == Rom || (phys-at)%8192 != 0 || phys-at > 3*8192 {
			t.Fatalf("%#x and %#x are both %v", at, phys, p)
		}
	}
}
