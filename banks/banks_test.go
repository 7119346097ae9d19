package banks

import (
	"math"
	"testing"

	"phosphor/card"
)

// row says that the pages of the bus from a page on, up to the next row, show those of the card from first on, one by one.
type row struct{ bus, first int }

// laid are the rows of each card whose kind is not Plain, written out; the upper rows of the Banked one are those of latch 0.
var laid = map[int][]row{
	48:  {{0, 0}, {32, 0}, {64, 32}, {80, 32}, {96, 32}, {112, 32}},
	96:  {{0, 0}, {64, 64}, {96, 64}},
	320: {{0, 0}, {64, 64}},
}

var plain = []int{1, 2, 4, 8, 16, 32, 64, 128}

// cards tells all numbers of pages that cards have.
func cards() []int {
	all := append([]int(nil), plain...)
	return append(all, 48, 96, 320)
}

// latches are latches with the bank that each of them takes.
var latches = []struct{ latch, bank int }{
	{0, 0}, {1, 1}, {2, 2}, {3, 3}, {4, 0}, {5, 1}, {6, 2}, {7, 3},
	{-1, 3}, {-2, 2}, {-3, 1}, {-4, 0}, {-5, 3}, {-6, 2}, {-7, 1}, {-8, 0},
	{255, 3}, {256, 0}, {-255, 1}, {-257, 3},
	{math.MaxInt32, 3}, {math.MaxInt32 + 1, 0}, {math.MinInt32, 0}, {math.MinInt32 - 1, 3},
	{math.MaxInt, 3}, {math.MaxInt - 1, 2}, {math.MaxInt - 2, 1}, {math.MaxInt - 3, 0},
	{math.MinInt, 0}, {math.MinInt + 1, 1}, {math.MinInt + 2, 2}, {math.MinInt + 3, 3},
}

// shown tells, page by page, what a card shows on the bus, of the bank that its latch takes.
func shown(pages, bank int) [128]int {
	rows := laid[pages]
	if rows == nil {
		for bus := 0; bus < 128; bus += pages {
			rows = append(rows, row{bus, 0})
		}
	}
	var all [128]int
	for i, r := range rows {
		end := 128
		if i+1 < len(rows) {
			end = rows[i+1].bus
		}
		for bus := r.bus; bus < end; bus++ {
			all[bus] = r.first + bus - r.bus
			if pages == 320 && bus >= 64 {
				all[bus] += 64 * bank
			}
		}
	}
	return all
}

// TestPageExamples: P4.1, and the chapter's examples.
func TestPageExamples(t *testing.T) {
	for _, x := range []struct{ pages, latch, page, want int }{
		{48, 0, 40, 8}, {48, 0, 70, 38}, {320, 3, 64, 256},
		{1, 0, 0, 0}, {1, 0, 127, 0}, {2, 0, 127, 1}, {64, 0, 63, 63}, {64, 0, 64, 0}, {128, 0, 64, 64}, {128, 0, 127, 127},
		{48, 0, 31, 31}, {48, 0, 32, 0}, {48, 0, 63, 31}, {48, 0, 64, 32}, {48, 0, 79, 47}, {48, 0, 80, 32}, {48, 0, 127, 47},
		{96, 0, 0, 0}, {96, 0, 63, 63}, {96, 0, 64, 64}, {96, 0, 95, 95}, {96, 0, 96, 64}, {96, 0, 127, 95},
		{320, 3, 0, 0}, {320, 3, 63, 63}, {320, 0, 64, 64}, {320, 0, 127, 127}, {320, 1, 64, 128}, {320, 2, 100, 228}, {320, 3, 127, 319},
		{320, 4, 64, 64}, {320, -1, 127, 319}, {320, math.MinInt, 64, 64}, {320, math.MaxInt, 64, 256},
	} {
		if got := Page(x.pages, x.latch, x.page); got != x.want {
			t.Errorf("Page(%d, %d, %d) = %d, want %d", x.pages, x.latch, x.page, got, x.want)
		}
	}
}

// TestPageAll: P4.1.
func TestPageAll(t *testing.T) {
	for _, pages := range cards() {
		for _, l := range latches {
			for page, want := range shown(pages, l.bank) {
				if got := Page(pages, l.latch, page); got != want {
					t.Errorf("Page(%d, %d, %d) = %d, want %d", pages, l.latch, page, got, want)
				}
			}
		}
	}
}

// TestPageNoPage: P4.1.
func TestPageNoPage(t *testing.T) {
	beyond := []int{-1, 128, -2, 129, -127, -128, -129, 255, 256, 300, 320, 1 << 13, -1 << 13,
		math.MinInt, math.MinInt + 1, math.MinInt + 64, math.MaxInt - 64, math.MaxInt - 1, math.MaxInt,
		math.MinInt32, math.MaxInt32, 1 << 32, 1<<32 + 70, -1 << 32}
	for _, pages := range cards() {
		for _, l := range latches {
			for _, page := range beyond {
				if got := Page(pages, l.latch, page); got != -1 {
					t.Errorf("Page(%d, %d, %d) = %d, want -1", pages, l.latch, page, got)
				}
			}
		}
	}
}

// noCards tells numbers of pages that no card has.
func noCards() []int {
	has := map[int]bool{}
	for _, pages := range cards() {
		has[pages] = true
	}
	numbers := []int{math.MinInt, math.MinInt + 1, math.MinInt + 320, math.MaxInt - 1, math.MaxInt, math.MinInt32, math.MaxInt32}
	for pages := -400; pages <= 700; pages++ {
		if !has[pages] {
			numbers = append(numbers, pages)
		}
	}
	for pages := range has {
		numbers = append(numbers, pages+1<<16, pages+1<<32, pages-1<<32, pages+math.MinInt)
	}
	return numbers
}

// TestPageNoCard: P4.1.
func TestPageNoCard(t *testing.T) {
	for _, pages := range noCards() {
		for _, latch := range []int{math.MinInt, -1, 0, 3, 7, math.MaxInt} {
			for page := -1; page <= 128; page++ {
				if got := Page(pages, latch, page); got != -1 {
					t.Errorf("Page(%d, %d, %d) = %d, want -1", pages, latch, page, got)
				}
			}
			for _, page := range []int{math.MinInt, math.MaxInt} {
				if got := Page(pages, latch, page); got != -1 {
					t.Errorf("Page(%d, %d, %d) = %d, want -1", pages, latch, page, got)
				}
			}
		}
	}
}

// TestPageByClass: P4.1, where cards are just those of which card.Class tells a kind.
func TestPageByClass(t *testing.T) {
	for pages := -10; pages <= 1000; pages++ {
		_, known := card.Class(pages)
		if got := Page(pages, 0, 0) != -1; got != known {
			t.Errorf("Page(%d, 0, 0) tells a page: %v, want %v", pages, got, known)
		}
	}
}

// TestLatchBanked: P4.2.
func TestLatchBanked(t *testing.T) {
	for _, l := range latches {
		for at, want := range map[int]int{8175: l.latch, 0x1ff0: 0, 0x1ff1: 1, 0x1ff2: 2, 8179: 3, 8180: l.latch} {
			if got := Latch(320, l.latch, at); got != want {
				t.Errorf("Latch(320, %d, %d) = %d, want %d", l.latch, at, got, want)
			}
		}
	}
}

// TestLatchElsewhere: P4.2.
func TestLatchElsewhere(t *testing.T) {
	places := []int{math.MinInt, math.MinInt + 8176, math.MinInt + 8179, -8176, -8177, -8179, -1,
		8176 + 8192, 8179 + 8192, 8176 + 1<<16, 8176 + 1<<21, 8176 + 1<<32, 8176 - 1<<32, math.MaxInt - 1, math.MaxInt}
	for at := 0; at < 8176; at++ {
		places = append(places, at)
	}
	for at := 8180; at <= 8200; at++ {
		places = append(places, at)
	}
	for _, l := range latches {
		for _, at := range places {
			if got := Latch(320, l.latch, at); got != l.latch {
				t.Errorf("Latch(320, %d, %d) = %d, want the latch as it is", l.latch, at, got)
			}
		}
	}
}

// TestLatchOthers: P4.2.
func TestLatchOthers(t *testing.T) {
	others := append([]int{48, 96}, plain...)
	others = append(others, noCards()...)
	for _, pages := range others {
		for _, l := range latches {
			for at := 8175; at <= 8180; at++ {
				if got := Latch(pages, l.latch, at); got != l.latch {
					t.Errorf("Latch(%d, %d, %d) = %d, want the latch as it is", pages, l.latch, at, got)
				}
			}
			for _, at := range []int{math.MinInt, -1, 0, math.MaxInt} {
				if got := Latch(pages, l.latch, at); got != l.latch {
					t.Errorf("Latch(%d, %d, %d) = %d, want the latch as it is", pages, l.latch, at, got)
				}
			}
		}
	}
}

// TestEachPage: P4.3.
func TestEachPage(t *testing.T) {
	for _, pages := range cards() {
		seen := make([]bool, pages)
		for _, l := range latches {
			for bus := range 128 {
				at := Page(pages, l.latch, bus)
				if at < 0 || at >= pages {
					t.Fatalf("Page(%d, %d, %d) = %d, that is no page of the card", pages, l.latch, bus, at)
				}
				seen[at] = true
			}
		}
		for at, is := range seen {
			if !is {
				t.Errorf("page %d of a card of %d pages is shown nowhere", at, pages)
			}
		}
	}
}

// TestEachPageByWrites: P4.3, with the latches alone that writes to the card make.
func TestEachPageByWrites(t *testing.T) {
	for _, pages := range cards() {
		seen := make([]bool, pages)
		latch := 0
		for at := 8175; at <= 8180; at++ {
			latch = Latch(pages, latch, at)
			for bus := range 128 {
				seen[Page(pages, latch, bus)] = true
			}
		}
		for at, is := range seen {
			if !is {
				t.Errorf("page %d of a card of %d pages is shown nowhere", at, pages)
			}
		}
	}
}

// TestSameAgain: P4.1 and P4.2 hang on what is given alone.
func TestSameAgain(t *testing.T) {
	before := Page(320, 2, 64)
	Latch(320, 2, 0x1ff3)
	Page(320, 1, 64)
	Page(48, 0, 64)
	if again := Page(320, 2, 64); before != 192 || again != before {
		t.Errorf("Page(320, 2, 64) = %d, then %d, want 192 twice", before, again)
	}
}
