package seal_test

import (
	"bytes"
	"fmt"
	"math"
	"math/bits"
	"math/rand"
	"testing"

	"carrack/api"
	"carrack/seal"
)

// Sizes and kinds at the edges, and some that are none.
var (
	edgeSizes = []int{128, 129, 200, 255, 256}
	noSizes   = []int{math.MinInt, -128, -1, 0, 1, 2, 5, 64, 126, 127, 257, 258, 384, 1<<16 + 128, 1<<32 + 128, math.MaxInt}
	kinds     = []uint8{1, 2, 3, 4, 5, 6, 7}
	noKinds   = []uint8{0, 8, 9, 15, 16, 127, 128, 129, 254, 255}
)

// room is how many bytes of a page stand ahead of its body.
const room = 5

// ones counts the bits that are 1, by the library's own means.
func ones(b []byte) int {
	n := 0
	for _, x := range b {
		n += bits.OnesCount8(x)
	}
	return n
}

// sealed writes the number of noughts, whatever it is of, as the chapter says
// it, ahead of what follows.
func sealed(rest []byte) []byte {
	n := 8*len(rest) - ones(rest)
	return append([]byte{byte(n), byte(n >> 8)}, rest...)
}

// pageOf builds a page by hand. It also builds what is none: of whatever size,
// kind and length, with whatever bytes.
func pageOf(size int, kind uint8, length int, body []byte) []byte {
	rest := append([]byte{kind, byte(length), byte(length >> 8)}, body...)
	for len(rest) < size-2 {
		rest = append(rest, 0xff)
	}
	return sealed(rest)
}

// counting answers n bytes, no two neighbours of which are the same.
func counting(n int) []byte {
	b := make([]byte, n)
	for i := range b {
		b[i] = byte(7*i + 3)
	}
	return b
}

// edgeBodies are bodies of a page of the size: none, short ones, and as long as
// may be, of noughts, of ones and of both.
func edgeBodies(size int) [][]byte {
	var out [][]byte
	for _, n := range []int{0, 1, 2, size / 2, size - room - 1, size - room} {
		out = append(out, counting(n), make([]byte, n), bytes.Repeat([]byte{0xff}, n))
	}
	return out
}

// everyPage calls f with a page of each edge, built by hand.
func everyPage(f func(page []byte, kind uint8, body []byte)) {
	for _, size := range edgeSizes {
		for _, kind := range kinds {
			for _, body := range edgeBodies(size) {
				f(pageOf(size, kind, len(body), body), kind, body)
			}
		}
	}
}

func wantPut(t *testing.T, size int, kind uint8, body, page []byte, e api.Errno) {
	t.Helper()
	if got, gotE := seal.Put(size, kind, body); !bytes.Equal(got, page) || gotE != e {
		t.Errorf("Put(%d, %d, %d bytes) = %x, %d; want %x, %d", size, kind, len(body), got, gotE, page, e)
	}
}

func wantGet(t *testing.T, b []byte, kind uint8, body []byte, e api.Errno) {
	t.Helper()
	if gotK, gotB, gotE := seal.Get(b); gotK != kind || !bytes.Equal(gotB, body) || gotE != e {
		t.Errorf("Get(%x) = %d, %x, %d; want %d, %x, %d", b, gotK, gotB, gotE, kind, body, e)
	}
}

func wantRefused(t *testing.T, b []byte, e api.Errno) {
	t.Helper()
	wantGet(t, b, 0, nil, e)
}

// flipped answers b with one bit the other way round.
func flipped(b []byte, bit int) []byte {
	out := bytes.Clone(b)
	out[bit/8] ^= 1 << (bit % 8)
	return out
}

func isOne(b []byte, bit int) bool { return b[bit/8]>>(bit%8)&1 == 1 }

// The chapter's examples, and the first two of the whole.

func TestExamples(t *testing.T) {
	page, e := seal.Put(128, 1, nil)
	if e != api.OK || len(page) != 128 || page[0] != 23 || page[1] != 0 {
		t.Fatalf("Put(128, 1, none) = %x, %d", page, e)
	}
	wantGet(t, page, 1, nil, api.OK)

	lastLess := bytes.Clone(page)
	lastLess[127] = 0x7f
	wantRefused(t, lastLess, api.ErrTorn)

	firstBlank := bytes.Clone(page)
	firstBlank[0] = 0xff
	wantRefused(t, firstBlank, api.ErrTorn)

	if !seal.Blank(nil) {
		t.Error("Blank(none) = false")
	}
}

func TestExamplesOfTheWhole(t *testing.T) {
	page, _ := seal.Put(128, 1, nil)
	if !bytes.HasPrefix(page, []byte{23, 0}) {
		t.Fatalf("a page of no body begins with %x", page[:2])
	}
	for bit := range 8 * len(page) {
		if !isOne(page, bit) {
			wantRefused(t, flipped(page, bit), api.ErrTorn)
		}
	}
}

// P2.1: Body.

func TestBody(t *testing.T) {
	for size := 128; size <= 256; size++ {
		if got := seal.Body(size); got != size-5 {
			t.Errorf("Body(%d) = %d; want %d", size, got, size-5)
		}
	}
	for _, size := range noSizes {
		if got := seal.Body(size); got != 0 {
			t.Errorf("Body(%d) = %d; want 0", size, got)
		}
	}
}

// P2.1: Put.

func TestPutByteByByte(t *testing.T) {
	// Noughts: 6 of the kind 3, 15 of the length, 5 and 8 of the body's 'a' and 0.
	want := append([]byte{34, 0, 3, 2, 0, 'a', 0}, bytes.Repeat([]byte{0xff}, 121)...)
	wantPut(t, 128, 3, []byte{'a', 0}, want, api.OK)

	// So many that they need the second byte: 5 of the kind 7, 9 of the length
	// 251, 2008 of the body, 2022 in all.
	want = append([]byte{0xe6, 0x07, 7, 251, 0}, make([]byte, 251)...)
	wantPut(t, 256, 7, make([]byte, 251), want, api.OK)
}

func TestPutIsThePageBuiltByHand(t *testing.T) {
	everyPage(func(page []byte, kind uint8, body []byte) {
		wantPut(t, len(page), kind, body, page, api.OK)
	})
}

func TestPutOfEachSizeAndLength(t *testing.T) {
	for size := 128; size <= 256; size++ {
		for n := range size - room + 1 {
			body := counting(n)
			wantPut(t, size, uint8(1+n%7), body, pageOf(size, uint8(1+n%7), n, body), api.OK)
		}
	}
}

func TestPutSizeOrKindThatIsNone(t *testing.T) {
	bodies := [][]byte{nil, {1}, counting(123), counting(252), counting(300)}
	for _, body := range bodies {
		for _, size := range noSizes {
			for _, kind := range append(noKinds, kinds...) {
				wantPut(t, size, kind, body, nil, api.ErrArg)
			}
		}
		for _, size := range edgeSizes {
			for _, kind := range noKinds {
				wantPut(t, size, kind, body, nil, api.ErrArg)
			}
		}
	}
}

func TestPutKindsAtTheEdges(t *testing.T) {
	for kind := range 256 {
		want := api.ErrArg
		if kind >= 1 && kind <= 7 {
			want = api.OK
		}
		if _, e := seal.Put(128, uint8(kind), nil); e != want {
			t.Errorf("Put of the kind %d: %d; want %d", kind, e, want)
		}
	}
}

func TestPutBodyTooLong(t *testing.T) {
	for size := 128; size <= 256; size++ {
		for _, more := range []int{1, 2, 5, 256, 1 << 16} {
			for _, kind := range []uint8{1, 7} {
				wantPut(t, size, kind, counting(size-room+more), nil, api.ErrLimit)
			}
		}
	}
}

// P2.2: Get.

func TestGetOfPagesBuiltByHand(t *testing.T) {
	everyPage(func(page []byte, kind uint8, body []byte) {
		wantGet(t, page, kind, body, api.OK)
	})
}

func TestGetOfNoPagesSize(t *testing.T) {
	for _, n := range []int{0, 1, 2, 5, 64, 126, 127, 257, 258, 384, 512, 1<<16 + 128} {
		wantRefused(t, bytes.Repeat([]byte{0xff}, n), api.ErrArg)
		wantRefused(t, make([]byte, n), api.ErrArg)
		if n >= room {
			wantRefused(t, pageOf(n, 1, 0, nil), api.ErrArg)
			wantRefused(t, pageOf(n, 9, 0, nil), api.ErrArg)
		}
	}
	wantRefused(t, nil, api.ErrArg)
	page := pageOf(256, 1, 2, []byte("ab"))
	wantRefused(t, page[:127], api.ErrArg)
	wantRefused(t, append(bytes.Clone(page), 0xff), api.ErrArg)
}

func TestGetOfABlankPage(t *testing.T) {
	for size := 128; size <= 256; size++ {
		blank := bytes.Repeat([]byte{0xff}, size)
		wantRefused(t, blank, api.ErrBlank)
		for _, bit := range []int{0, 7, 8, 15, 16, 24, 39, 40, 8*size - 1} {
			wantRefused(t, flipped(blank, bit), api.ErrTorn)
		}
	}
}

func TestGetOfAnotherNumberOfNoughts(t *testing.T) {
	everyPage(func(page []byte, kind uint8, body []byte) {
		right := int(page[0]) | int(page[1])<<8
		for _, n := range []int{0, 1, right - 1, right + 1, right ^ 256, right << 8 & 0xffff, 65535} {
			if n != right {
				torn := bytes.Clone(page)
				torn[0], torn[1] = byte(n), byte(n>>8)
				wantRefused(t, torn, api.ErrTorn)
			}
		}
	})
}

// Where the number is of all the bytes, or of ones, it is another one.
func TestNumberIsOfAllButTheFirstTwo(t *testing.T) {
	page := pageOf(128, 1, 3, []byte("abc"))
	rest := page[2:]
	for _, n := range []int{ones(rest), ones(page), 8*len(page) - ones(page)} {
		torn := append([]byte{byte(n), byte(n >> 8)}, rest...)
		wantRefused(t, torn, api.ErrTorn)
	}
	swapped := bytes.Clone(page)
	swapped[0], swapped[1] = page[1], page[0]
	wantRefused(t, swapped, api.ErrTorn)
}

// One bit the other way, to 1 or to 0, in whatever part: in the first two bytes,
// the kind, the length, the body and behind it. Behind it all bits are 1, so
// there is none more there, but one less.
func TestGetWithOneBitOfEachPart(t *testing.T) {
	body := []byte{0x00, 'a', 0x0f, 0xff}
	for _, size := range []int{128, 256} {
		for _, kind := range []uint8{1, 7} {
			page := pageOf(size, kind, len(body), body)
			for _, part := range []struct {
				name     string
				from, to int
				more     bool
			}{{"noughts", 0, 2, true}, {"kind", 2, 3, true}, {"length", 3, 5, true}, {"body", 5, 9, true}, {"behind", 9, size, false}} {
				more := 0
				for bit := 8 * part.from; bit < 8*part.to; bit++ {
					if !isOne(page, bit) {
						more++
					}
					wantRefused(t, flipped(page, bit), api.ErrTorn)
				}
				if part.more != (more > 0) {
					t.Errorf("%s: %d bits more were tried", part.name, more)
				}
			}
		}
	}
}

func TestGetWithAnyOneBit(t *testing.T) {
	everyPage(func(page []byte, kind uint8, body []byte) {
		for bit := range 8 * len(page) {
			wantRefused(t, flipped(page, bit), api.ErrTorn)
		}
	})
}

// Of these the number of noughts is right, and they are no pages all the same.
func TestGetOfARightNumberAndNoPage(t *testing.T) {
	for _, size := range edgeSizes {
		for _, kind := range noKinds {
			for _, body := range edgeBodies(size) {
				wantRefused(t, pageOf(size, kind, len(body), body), api.ErrForm)
			}
		}
		for _, kind := range kinds {
			for _, length := range []int{size - room + 1, size - room + 2, size, 256, 257, 512, 32768, 65535} {
				wantRefused(t, pageOf(size, kind, length, nil), api.ErrForm)
				wantRefused(t, pageOf(size, kind, length, counting(size-room)), api.ErrForm)
			}
		}
	}
}

func TestGetOfAKindOfEachNumber(t *testing.T) {
	for kind := range 256 {
		page := pageOf(128, uint8(kind), 1, []byte{9})
		if kind >= 1 && kind <= 7 {
			wantGet(t, page, uint8(kind), []byte{9}, api.OK)
		} else {
			wantRefused(t, page, api.ErrForm)
		}
	}
}

func TestGetOfEachLength(t *testing.T) {
	for _, size := range edgeSizes {
		blankBody := bytes.Repeat([]byte{0xff}, size-room)
		for length := range 600 {
			page := pageOf(size, 2, length, nil)
			if length <= size-room {
				wantGet(t, page, 2, blankBody[:length], api.OK)
			} else {
				wantRefused(t, page, api.ErrForm)
			}
		}
	}
}

// Each bit behind the body must be 1, from the first one to the last one.
func TestGetOfBitsBehindTheBody(t *testing.T) {
	for _, size := range edgeSizes {
		for _, length := range []int{0, 1, size / 2, size - room - 1} {
			page := pageOf(size, 5, length, counting(length))
			for bit := 8 * (room + length); bit < 8*size; bit++ {
				wantRefused(t, sealed(flipped(page, bit)[2:]), api.ErrForm)
			}
		}
	}
}

// ErrTorn is named ahead of ErrForm, ErrBlank ahead of both, ErrArg ahead of
// all.
func TestGetNamesTheFirstError(t *testing.T) {
	for _, size := range edgeSizes {
		for _, b := range [][]byte{pageOf(size, 0, 0, nil), pageOf(size, 8, 0, nil), pageOf(size, 1, size, nil), pageOf(size, 1, 0, []byte{0})} {
			wantRefused(t, b, api.ErrForm)
			b[0] ^= 1
			wantRefused(t, b, api.ErrTorn)
			wantRefused(t, b[:127], api.ErrArg)
		}
		wantRefused(t, make([]byte, size), api.ErrTorn)
	}
}

// P2.3: Blank, Noughts, Less.

func TestBlank(t *testing.T) {
	for _, n := range []int{0, 1, 2, 127, 128, 256, 257, 5000} {
		b := bytes.Repeat([]byte{0xff}, n)
		if !seal.Blank(b) {
			t.Errorf("Blank of %d bytes ff = false", n)
		}
		for bit := range 8 * n {
			b[bit/8] ^= 1 << (bit % 8)
			if seal.Blank(b) {
				t.Fatalf("Blank of %d bytes with the bit %d of 0 = true", n, bit)
			}
			b[bit/8] = 0xff
		}
		if n > 0 && seal.Blank(make([]byte, n)) {
			t.Errorf("Blank of %d noughts = true", n)
		}
	}
	if !seal.Blank(nil) || !seal.Blank([]byte{0xff, 0}[:1]) {
		t.Error("Blank of none, or with a nought behind it = false")
	}
}

func TestNoughts(t *testing.T) {
	for x := range 256 {
		if got, want := seal.Noughts([]byte{byte(x)}), bits.OnesCount8(^uint8(x)); got != want {
			t.Errorf("Noughts(%02x) = %d; want %d", x, got, want)
		}
	}
	for _, n := range []int{0, 1, 2, 127, 128, 256, 257, 5000} {
		if got := seal.Noughts(make([]byte, n)); got != 8*n {
			t.Errorf("Noughts of %d noughts = %d", n, got)
		}
		if got := seal.Noughts(bytes.Repeat([]byte{0xff}, n)); got != 0 {
			t.Errorf("Noughts of %d bytes ff = %d", n, got)
		}
		b := counting(n)
		if got, want := seal.Noughts(b), 8*n-ones(b); got != want {
			t.Errorf("Noughts of %d bytes = %d; want %d", n, got, want)
		}
	}
	if got := seal.Noughts([]byte{0xfe, 0}[:1]); got != 1 {
		t.Errorf("Noughts with a nought behind it = %d", got)
	}
}

func TestLessOfEachTwoBytes(t *testing.T) {
	for a := range 256 {
		for b := range 256 {
			want := a != b && a|b == a
			if got := seal.Less([]byte{byte(a)}, []byte{byte(b)}); got != want {
				t.Errorf("Less(%02x, %02x) = %v", a, b, got)
			}
		}
	}
}

func TestLessOfLists(t *testing.T) {
	for i, c := range []struct {
		a, b []byte
		want bool
	}{
		{nil, nil, false},
		{[]byte{}, nil, false},
		{[]byte{1}, nil, false},
		{nil, []byte{0}, false},
		{[]byte{3, 3}, []byte{3, 1}, true},
		{[]byte{3, 3}, []byte{1, 3}, true},
		{[]byte{3, 1}, []byte{3, 3}, false},
		{[]byte{3, 3}, []byte{3, 3}, false},
		{[]byte{7, 1}, []byte{3, 2}, false},
		{[]byte{1, 7}, []byte{2, 3}, false},
		{[]byte{0xff, 0xff}, []byte{0, 0}, true},
		{[]byte{0, 0}, []byte{0xff, 0xff}, false},
		{[]byte{0xff, 0xff, 0xff}, []byte{0, 0}, false},
		{[]byte{0xff, 0xff}, []byte{0, 0, 0}, false},
		{[]byte{0xff, 0xff}, []byte{0xff, 0}, true},
		{[]byte{5, 0xff}, []byte{5, 1}[:1], false},
	} {
		if got := seal.Less(c.a, c.b); got != c.want {
			t.Errorf("%d: Less(%x, %x) = %v", i, c.a, c.b, got)
		}
	}
}

func TestLessOfPages(t *testing.T) {
	page := pageOf(128, 1, 4, []byte("abcd"))
	for bit := range 8 * len(page) {
		other := flipped(page, bit)
		if got, want := seal.Less(other, page), !isOne(page, bit); got != want {
			t.Errorf("Less(with the bit %d flipped, page) = %v", bit, got)
		}
		if got, want := seal.Less(page, other), isOne(page, bit); got != want {
			t.Errorf("Less(page, with the bit %d flipped) = %v", bit, got)
		}
	}
}

// P2.4.

// wantNever: what is less than a page is blank or torn.
func wantNever(t *testing.T, less, page []byte) {
	t.Helper()
	if !seal.Less(less, page) {
		t.Fatalf("%x is not less than %x", less, page)
	}
	want := api.ErrTorn
	if ones(less) == 8*len(less) {
		want = api.ErrBlank
	}
	wantRefused(t, less, want)
}

func or(a, b []byte) []byte {
	out := make([]byte, len(a))
	for i := range a {
		out[i] = a[i] | b[i]
	}
	return out
}

// wantNeverWith: as wantNever, where the mask makes bits 1 at all.
func wantNeverWith(t *testing.T, page, mask []byte) {
	t.Helper()
	if less := or(page, mask); !bytes.Equal(less, page) {
		wantNever(t, less, page)
	}
}

// sparse answers random bits, fewer of 1 the greater thin is.
func sparse(r *rand.Rand, size, thin int) []byte {
	mask, more := make([]byte, size), make([]byte, size)
	r.Read(mask)
	for range thin {
		r.Read(more)
		for i := range mask {
			mask[i] &= more[i]
		}
	}
	return mask
}

func TestLessIsBlankOrTorn(t *testing.T) {
	r := rand.New(rand.NewSource(1))
	everyPage(func(page []byte, kind uint8, body []byte) {
		size := len(page)
		all := bytes.Repeat([]byte{0xff}, size)
		for n := range size {
			wantNeverWith(t, page, append(make([]byte, n), all[n:]...))
			wantNeverWith(t, page, append(bytes.Clone(all[n:]), make([]byte, n)...))
		}
		for thin := range 8 {
			for range 4 {
				wantNeverWith(t, page, sparse(r, size, thin))
			}
		}
	})
}

// Bits more ahead of the body, where they change what the fields say: all
// choices for two bytes at a time.
func TestLessInFrontIsTorn(t *testing.T) {
	for _, body := range [][]byte{nil, counting(123)} {
		for _, kind := range []uint8{1, 6} {
			page := pageOf(128, kind, len(body), body)
			for _, places := range [][2]int{{0, 1}, {0, 2}, {1, 3}, {2, 3}, {3, 4}} {
				for more := range 1 << 16 {
					mask := make([]byte, len(page))
					mask[places[0]], mask[places[1]] = byte(more), byte(more>>8)
					wantNeverWith(t, page, mask)
				}
			}
		}
	}
}

func TestTwoBitsMore(t *testing.T) {
	for _, page := range [][]byte{pageOf(128, 1, 0, nil), pageOf(128, 7, 5, []byte{0, 0, 0, 0, 0}), pageOf(200, 2, 9, counting(9))} {
		for one := range 8 * len(page) {
			for other := range one {
				if !isOne(page, one) && !isOne(page, other) {
					wantNever(t, flipped(flipped(page, one), other), page)
				}
			}
		}
	}
}

// The bits of another page, more, don't make it that one: the number of noughts
// would have to go down, and its bits go up alone.
func TestNeverAnotherPage(t *testing.T) {
	for _, size := range []int{128, 256} {
		var pages [][]byte
		for _, kind := range kinds {
			for _, body := range edgeBodies(size) {
				pages = append(pages, pageOf(size, kind, len(body), body))
			}
		}
		for _, page := range pages {
			for _, other := range pages {
				if seal.Less(other, page) {
					t.Errorf("the page %x is less than the page %x", other, page)
				}
				wantNeverWith(t, page, other)
				wantNeverWith(t, page, append([]byte{0, 0}, other[2:]...))
			}
		}
	}
}

func wantPutAgain(t *testing.T, page []byte) {
	t.Helper()
	kind, body, e := seal.Get(page)
	if e != api.OK {
		t.Fatalf("Get(%x): %d", page, e)
	}
	wantPut(t, len(page), kind, body, page, api.OK)
}

func TestWhatIsGotIsPutAgain(t *testing.T) {
	everyPage(func(page []byte, kind uint8, body []byte) { wantPutAgain(t, page) })
	r := rand.New(rand.NewSource(2))
	for size := 128; size <= 256; size++ {
		for _, kind := range kinds {
			body := make([]byte, r.Intn(size-room+1))
			r.Read(body)
			page, e := seal.Put(size, kind, body)
			if e != api.OK {
				t.Fatalf("Put(%d, %d, %x): %d", size, kind, body, e)
			}
			wantGet(t, page, kind, body, api.OK)
			wantPutAgain(t, page)
		}
	}
}

// Of bytes of any kind, sealed or not: what Get takes is a page, as Put has it,
// and beside an error there is nothing.
func TestGetOfAnyBytes(t *testing.T) {
	r := rand.New(rand.NewSource(3))
	got := map[api.Errno]int{}
	for range 20000 {
		b := make([]byte, 120+r.Intn(145))
		r.Read(b)
		if len(b) > 10 && r.Intn(4) > 0 {
			b[2], b[3], b[4] = byte(r.Intn(9)), byte(r.Intn(140)), byte(r.Intn(40)/39)
			behind := room + int(b[3]) + r.Intn(20)/19
			for i := min(behind, len(b)); i < len(b); i++ {
				b[i] = 0xff
			}
			b = sealed(b[2:])
		}
		kind, body, e := seal.Get(b)
		got[e]++
		if e == api.OK {
			wantPut(t, len(b), kind, body, b, api.OK)
		} else if kind != 0 || len(body) != 0 {
			t.Errorf("beside %d Get answered %d, %x", e, kind, body)
		}
	}
	for _, e := range []api.Errno{api.OK, api.ErrArg, api.ErrTorn, api.ErrForm} {
		if got[e] == 0 {
			t.Errorf("none of the bytes was answered with %d: %s", e, fmt.Sprint(got))
		}
	}
}

// The rules: what is handed in, and what is answered.

func TestPutLeavesItsArgument(t *testing.T) {
	for _, n := range []int{0, 1, 122, 123, 124, 200} {
		whole := counting(n + 40)
		for _, kind := range []uint8{0, 1, 7, 8} {
			for _, size := range []int{127, 128, 256, 257} {
				page, _ := seal.Put(size, kind, whole[:n])
				clear(page[:cap(page)])
			}
		}
		if !bytes.Equal(whole, counting(n+40)) {
			t.Errorf("Put of %d bytes changed them, or the room behind them", n)
		}
	}
}

func TestGetLeavesItsArgument(t *testing.T) {
	behind := []byte{1, 2, 3, 4, 5, 6, 7, 8}
	for _, page := range [][]byte{
		pageOf(128, 1, 0, nil), pageOf(128, 7, 123, counting(123)), pageOf(256, 3, 4, []byte("abcd")),
		pageOf(128, 9, 0, nil), pageOf(128, 1, 124, nil), bytes.Repeat([]byte{0xff}, 128), make([]byte, 128), make([]byte, 127),
	} {
		whole := append(bytes.Clone(page), behind...)
		_, body, _ := seal.Get(whole[:len(page)])
		body = body[:cap(body)]
		for i := range body {
			body[i] ^= 0xff
		}
		_ = append(body, 9, 9, 9)
		if !bytes.Equal(whole, append(bytes.Clone(page), behind...)) {
			t.Errorf("Get of %d bytes changed them, or the room behind them, or its answer shares them", len(page))
		}
	}
}

func TestLooksLeaveTheirArguments(t *testing.T) {
	a, b := counting(40), counting(40)
	b[3] = 0
	seal.Blank(a[:20])
	seal.Noughts(a[:20])
	seal.Less(a[:20], b[:20])
	seal.Less(b[:20], a[:20])
	want := counting(40)
	if !bytes.Equal(a, want) {
		t.Errorf("a is %x now", a)
	}
	want[3] = 0
	if !bytes.Equal(b, want) {
		t.Errorf("b is %x now", b)
	}
}

func TestPutAnswersNewMemory(t *testing.T) {
	for _, body := range [][]byte{nil, counting(7), counting(123)} {
		first, _ := seal.Put(128, 1, body)
		second, _ := seal.Put(128, 1, body)
		want := bytes.Clone(second)
		clear(first[:cap(first)])
		clear(body)
		if !bytes.Equal(second, want) {
			t.Error("two answers share memory, or an answer and its argument")
		}
	}
}

func TestGetAnswersNewMemory(t *testing.T) {
	body := counting(9)
	page := pageOf(128, 4, len(body), body)
	_, first, _ := seal.Get(page)
	_, second, _ := seal.Get(page)
	clear(first[:cap(first)])
	if !bytes.Equal(second, body) {
		t.Error("two answers share memory")
	}
	wantGet(t, page, 4, body, api.OK)
	clear(page)
	if !bytes.Equal(second, body) {
		t.Error("the answer changes with the argument")
	}
}

// Lists that are nil and lists without elements are the same.
func TestNoneIsNone(t *testing.T) {
	want := pageOf(128, 1, 0, nil)
	for _, none := range [][]byte{nil, {}, make([]byte, 0, 300)} {
		wantPut(t, 128, 1, none, want, api.OK)
		wantRefused(t, none, api.ErrArg)
		if !seal.Blank(none) || seal.Noughts(none) != 0 || seal.Less(none, nil) || seal.Less(nil, none) {
			t.Errorf("of none (room %d): Blank %v, Noughts %d", cap(none), seal.Blank(none), seal.Noughts(none))
		}
	}
}

func TestTheSameAgain(t *testing.T) {
	everyPage(func(page []byte, kind uint8, body []byte) {
		for range 2 {
			wantPut(t, len(page), kind, body, page, api.OK)
			wantGet(t, page, kind, body, api.OK)
		}
	})
}
