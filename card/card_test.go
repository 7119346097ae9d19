package card

import (
	"bytes"
	"errors"
	"math"
	"strings"
	"testing"

	"phosphor/api"
)

const (
	page   = 8192
	header = 512
)

// listed are the numbers of pages that the chapter lists, with their kinds, written out once more.
var listed = map[int]int{
	1: 0, 2: 0, 4: 0, 8: 0, 16: 0, 32: 0, 64: 0, 128: 0,
	48: 1, 96: 1,
	320: 2,
}

// edges are numbers that no count and no place may be.
var edges = []int{math.MinInt, math.MinInt + 1, math.MinInt32 - 1, math.MinInt32, -321, -320, -2, -1, math.MaxInt32, math.MaxInt32 + 1, math.MaxInt - 1, math.MaxInt}

// sample tells an image whose pages differ from each other, and the bytes of each page too.
func sample(size int) []byte {
	image := make([]byte, size)
	for i := range image {
		x := uint32(i)*2654435761 + 12345
		image[i] = byte(x>>24) ^ byte(x>>11)
	}
	return image
}

func mustLoad(t *testing.T, image []byte) *Card {
	t.Helper()
	c, e := Load(image)
	if e != api.OK || c == nil {
		t.Fatalf("Load of %d bytes: %v, error %d", len(image), c, int(e))
	}
	return c
}

// TestClassListed: P3.1.
func TestClassListed(t *testing.T) {
	for pages, want := range listed {
		if kind, ok := Class(pages); kind != want || !ok {
			t.Errorf("Class(%d) = %d, %v, want %d, true", pages, kind, ok, want)
		}
		for _, beside := range []int{pages - 1, pages + 1} {
			if _, is := listed[beside]; is {
				continue
			}
			if kind, ok := Class(beside); kind != 0 || ok {
				t.Errorf("Class(%d) = %d, %v, want 0, false", beside, kind, ok)
			}
		}
	}
}

// TestClassOthers: P3.1.
func TestClassOthers(t *testing.T) {
	numbers := append([]int{0}, edges...)
	for pages := -700; pages <= 70000; pages++ {
		numbers = append(numbers, pages)
	}
	// These have the lowest bits of numbers that are listed.
	for pages := range listed {
		numbers = append(numbers, pages-1<<8, pages+1<<8, pages+1<<16, pages+1<<32, pages-1<<32, pages+math.MinInt, -pages)
	}
	for _, pages := range numbers {
		want, is := listed[pages]
		if kind, ok := Class(pages); kind != want || ok != is {
			t.Errorf("Class(%d) = %d, %v, want %d, %v", pages, kind, ok, want, is)
		}
	}
}

// TestKinds: P3.1: the names of the kinds have the chapter's numbers.
func TestKinds(t *testing.T) {
	if Plain != 0 || Split != 1 || Banked != 2 {
		t.Error(Plain, Split, Banked)
	}
}

// TestLoadRefuses: P3.2.
func TestLoadRefuses(t *testing.T) {
	tests := []struct {
		size int
		want api.Errno
	}{
		{0, api.ErrEmpty},
		{header, api.ErrEmpty},
		{1, api.ErrSize},
		{100, api.ErrSize},
		{header - 1, api.ErrSize},
		{header + 1, api.ErrSize},
		{2 * header, api.ErrSize},
		{page - 1, api.ErrSize},
		{page - header, api.ErrSize},
		{page + 1, api.ErrSize},
		{page + header - 1, api.ErrSize},
		{page + header + 1, api.ErrSize},
		{page + 2*header, api.ErrSize},
		{2*page - 1, api.ErrSize},
		{3*page - 1, api.ErrSize},
		{3*page + 1, api.ErrSize},
		{48*page - 1, api.ErrSize},
		{48*page + header - 1, api.ErrSize},
		{48*page + header + 1, api.ErrSize},
		{320*page - 1, api.ErrSize},
		{320*page + 1, api.ErrSize},
		{320*page + header - 1, api.ErrSize},
		{320*page + header + 1, api.ErrSize},
		// Too long, and no whole pages: the first of both is told.
		{321*page - 1, api.ErrSize},
		{321*page + 1, api.ErrSize},
		{400*page + header - 1, api.ErrSize},
		{400*page + header + 1, api.ErrSize},
		{321 * page, api.ErrLong},
		{321*page + header, api.ErrLong},
		{322 * page, api.ErrLong},
		{384 * page, api.ErrLong},
		{512 * page, api.ErrLong},
		{512*page + header, api.ErrLong},
		{640*page + header, api.ErrLong},
		{3 * page, api.ErrClass},
		{3*page + header, api.ErrClass},
		{319 * page, api.ErrClass},
		{319*page + header, api.ErrClass},
	}
	for _, test := range tests {
		if c, e := Load(make([]byte, test.size)); c != nil || e != test.want {
			t.Errorf("Load of %d bytes: %v, error %d, want nil, error %d", test.size, c, int(e), int(test.want))
		}
	}
	if c, e := Load(nil); c != nil || e != api.ErrEmpty {
		t.Errorf("Load of nil: %v, error %d", c, int(e))
	}
}

// TestErrors: P3.2: the errors have the chapter's numbers.
func TestErrors(t *testing.T) {
	if api.ErrEmpty != 10 || api.ErrSize != 11 || api.ErrLong != 12 || api.ErrClass != 13 {
		t.Error("errors have other numbers")
	}
}

// TestLoadSizes: P3.2, and Pages and Kind of P3.3: each number of whole pages up to some beyond MaxPages, with a header and without.
func TestLoadSizes(t *testing.T) {
	room := make([]byte, 330*page+header)
	for pages := 1; pages <= 330; pages++ {
		kind, is := listed[pages]
		want := api.OK
		switch {
		case pages > 320:
			want = api.ErrLong
		case !is:
			want = api.ErrClass
		}
		for _, size := range []int{pages * page, pages*page + header} {
			c, e := Load(room[:size])
			if e != want || (c == nil) != (want != api.OK) {
				t.Fatalf("Load of %d bytes: %v, error %d, want error %d", size, c, int(e), int(want))
			}
			if want == api.OK && (c.Pages() != pages || c.Kind() != kind) {
				t.Errorf("Load of %d bytes: %d pages of kind %d, want %d of %d", size, c.Pages(), c.Kind(), pages, kind)
			}
		}
	}
}

// TestLoadRests: P3.2: each number of bytes that a page and a rest can be.
func TestLoadRests(t *testing.T) {
	room := make([]byte, 2*page)
	for size := page; size < 2*page; size++ {
		want := api.ErrSize
		if size == page || size == page+header {
			want = api.OK
		}
		if _, e := Load(room[:size]); e != want {
			t.Fatalf("Load of %d bytes: error %d, want %d", size, int(e), int(want))
		}
	}
}

// TestByteEdges: P3.3.
func TestByteEdges(t *testing.T) {
	for pages := range listed {
		image := sample(pages * page)
		// None of these is 255, what is told where there is no byte.
		image[0], image[page-1], image[len(image)-page], image[len(image)-1] = 1, 2, 3, 4
		c := mustLoad(t, image)
		last := pages - 1
		for _, place := range [][2]int{{0, 0}, {0, page - 1}, {last, 0}, {last, page - 1}} {
			want := int(image[place[0]*page+place[1]])
			if got := c.Byte(place[0], place[1]); got != want {
				t.Errorf("%d pages: Byte(%d, %d) = %d, want %d", pages, place[0], place[1], got, want)
			}
		}
		noPages := append([]int{pages, pages + 1, 1 << 51, -1 << 51}, edges...)
		noPlaces := append([]int{page, page + 1, 2 * page, 1 << 32}, edges...)
		for _, none := range noPages {
			for _, at := range append([]int{0, 1, page - 1}, noPlaces...) {
				if got := c.Byte(none, at); got != 255 {
					t.Errorf("%d pages: Byte(%d, %d) = %d, want 255", pages, none, at, got)
				}
			}
		}
		for _, none := range noPlaces {
			for _, at := range []int{0, last} {
				if got := c.Byte(at, none); got != 255 {
					t.Errorf("%d pages: Byte(%d, %d) = %d, want 255", pages, at, none, got)
				}
			}
		}
	}
}

// TestNoCard: P3.3: nil, and cards that no call made.
func TestNoCard(t *testing.T) {
	var none *Card
	for _, c := range []*Card{none, {}, new(Card)} {
		if c.Pages() != 0 || c.Kind() != Plain {
			t.Errorf("%v: %d pages, kind %d, want 0, Plain", c, c.Pages(), c.Kind())
		}
		numbers := append([]int{0, 1, 2, 319, 320, page - 1, page, page + 1}, edges...)
		for _, number := range numbers {
			for _, at := range numbers {
				if got := c.Byte(number, at); got != 255 {
					t.Errorf("%v: Byte(%d, %d) = %d, want 255", c, number, at, got)
				}
			}
		}
	}
}

// TestHeader: P3.4: whatever a header's bytes are, the card is the same, and each byte is told at its place.
func TestHeader(t *testing.T) {
	for pages, kind := range listed {
		body := sample(pages * page)
		plain := mustLoad(t, body)
		for _, fill := range []byte{0, 1, 255} {
			headed := append(bytes.Repeat([]byte{fill}, header), body...)
			c := mustLoad(t, headed)
			if c.Pages() != pages || c.Kind() != kind || plain.Pages() != pages || plain.Kind() != kind {
				t.Fatalf("%d pages: with a header %d of kind %d, without %d of kind %d", pages, c.Pages(), c.Kind(), plain.Pages(), plain.Kind())
			}
			for i, want := range body {
				number, at := i/page, i%page
				if got, without := c.Byte(number, at), plain.Byte(number, at); got != int(want) || without != int(want) {
					t.Fatalf("%d pages: Byte(%d, %d) is %d with a header, %d without, want %d", pages, number, at, got, without, want)
				}
			}
		}
	}
}

// TestExample: P3.4: the chapter's example.
func TestExample(t *testing.T) {
	image := sample(8704)
	c := mustLoad(t, image)
	if c.Pages() != 1 {
		t.Error(c.Pages())
	}
	for at := range page {
		if got, want := c.Byte(0, at), int(image[512+at]); got != want {
			t.Fatalf("Byte(0, %d) = %d, want %d", at, got, want)
		}
	}
}

// TestImageChanged: P3.4: an image that is changed behind Load changes no card, and Load changes no image, nor what lies behind it.
func TestImageChanged(t *testing.T) {
	for _, size := range []int{page, page + header, 48 * page, 48*page + header} {
		room := sample(size + page)
		before := bytes.Clone(room)
		c := mustLoad(t, room[:size])
		other := mustLoad(t, room[:size])
		if !bytes.Equal(room, before) {
			t.Fatalf("Load of %d bytes has changed what was handed in", size)
		}
		for i := range room {
			room[i] ^= 255
		}
		body := before[size%page : size]
		for i, want := range body {
			if got, second := c.Byte(i/page, i%page), other.Byte(i/page, i%page); got != int(want) || second != int(want) {
				t.Fatalf("%d bytes, changed: byte %d is %d and %d, want %d", size, i, got, second, want)
			}
		}
		changed := mustLoad(t, room[:size])
		if got, want := changed.Byte(0, 0), int(body[0]^255); got != want {
			t.Errorf("the changed image of %d bytes begins with %d, want %d", size, got, want)
		}
	}
}

// TestFault: P3.2: what is wrong with an image is wrapped, and says of how many bytes it was.
func TestFault(t *testing.T) {
	err := check(100)
	var number api.Errno
	if !errors.As(err, &number) || number != api.ErrSize || !errors.Is(err, api.ErrSize) {
		t.Errorf("%v", err)
	}
	if text := err.Error(); !strings.Contains(text, "100 bytes") || !strings.Contains(text, api.ErrSize.Error()) {
		t.Error(text)
	}
	if err := check(page); err != nil {
		t.Errorf("%v", err)
	}
}
