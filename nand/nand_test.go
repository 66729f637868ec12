package nand_test

import (
	"bytes"
	"fmt"
	"math"
	"math/rand"
	"slices"
	"testing"

	"carrack/api"
	"carrack/nand"
	"carrack/seal"
)

// small is the chapter's geometry; odd has numbers that no other one of it has,
// so that what is mixed up is told.
var (
	small = api.Geo{Blocks: 8, Pages: 4, Size: 128}
	odd   = api.Geo{Blocks: 11, Pages: 5, Size: 131, Spares: 3}
	large = api.Geo{Blocks: 64, Pages: 32, Size: 256, Spares: 4}
	geos  = []api.Geo{small, odd, large}
)

func total(g api.Geo) int { return g.Blocks * g.Pages * g.Size }

func noughts(g api.Geo) []byte { return make([]byte, g.Size) }

func ones(n int) []byte { return bytes.Repeat([]byte{0xff}, n) }

// counting answers n bytes, no two neighbours of which are the same.
func counting(n int) []byte {
	b := make([]byte, n)
	for i := range b {
		b[i] = byte(7*i + i/256 + 3)
	}
	return b
}

// at answers where a page begins among the bytes of a chip.
func at(g api.Geo, block, page int) int { return (block*g.Pages + page) * g.Size }

func made(t *testing.T, g api.Geo) *nand.Chip {
	t.Helper()
	c, e := nand.New(g)
	if e != api.OK || c == nil {
		t.Fatalf("New(%v): %d", g, e)
	}
	return c
}

func loaded(t *testing.T, g api.Geo, b []byte, bad ...int) *nand.Chip {
	t.Helper()
	c, e := nand.Load(g, b, bad)
	if e != api.OK || c == nil {
		t.Fatalf("Load(%v, %d bytes, %v): %d", g, len(b), bad, e)
	}
	return c
}

func powered(t *testing.T, c *nand.Chip) *nand.Chip {
	t.Helper()
	p, e := c.Power()
	if e != api.OK || p == nil {
		t.Fatalf("Power: %d", e)
	}
	return p
}

// dead answers a chip with those bytes whose power is cut.
func dead(t *testing.T, g api.Geo, b []byte, bad ...int) *nand.Chip {
	t.Helper()
	c := loaded(t, g, b, bad...)
	wantHits(t, c, []api.Hit{{}}, api.OK)
	wantErase(t, c, 0, api.ErrDead)
	return c
}

func wantRead(t *testing.T, c *nand.Chip, block, page int, b []byte, e api.Errno) {
	t.Helper()
	if got, gotE := c.Read(block, page); !bytes.Equal(got, b) || gotE != e {
		t.Errorf("Read(%d, %d) = %x, %d; want %x, %d", block, page, got, gotE, b, e)
	}
}

func wantProgram(t *testing.T, c *nand.Chip, block, page int, b []byte, e api.Errno) {
	t.Helper()
	if got := c.Program(block, page, b); got != e {
		t.Errorf("Program(%d, %d, %d bytes) = %d; want %d", block, page, len(b), got, e)
	}
}

func wantErase(t *testing.T, c *nand.Chip, block int, e api.Errno) {
	t.Helper()
	if got := c.Erase(block); got != e {
		t.Errorf("Erase(%d) = %d; want %d", block, got, e)
	}
}

func wantHits(t *testing.T, c *nand.Chip, l []api.Hit, e api.Errno) {
	t.Helper()
	if got := c.Hits(l); got != e {
		t.Errorf("Hits(%v) = %d; want %d", l, got, e)
	}
}

func wantDeeds(t *testing.T, c *nand.Chip, n int) {
	t.Helper()
	if got := c.Deeds(); got != n {
		t.Errorf("Deeds() = %d; want %d", got, n)
	}
}

func wantBytes(t *testing.T, c *nand.Chip, b []byte) {
	t.Helper()
	got := c.Bytes()
	if len(got) != len(b) {
		t.Fatalf("Bytes(): %d of them; want %d", len(got), len(b))
	}
	for i := range b {
		if got[i] != b[i] {
			t.Fatalf("Bytes(): %02x stands at %d; want %02x", got[i], i, b[i])
		}
	}
}

// wantBad: just these blocks are bad.
func wantBad(t *testing.T, c *nand.Chip, bad ...int) {
	t.Helper()
	for block := -2; block < 70; block++ {
		if got := c.Bad(block); got != slices.Contains(bad, block) {
			t.Errorf("Bad(%d) = %v", block, got)
		}
	}
}

// The chapter's examples.

func TestExampleOfPrograms(t *testing.T) {
	c := made(t, small)
	wantProgram(t, c, 0, 1, noughts(small), api.OK)
	wantProgram(t, c, 0, 0, noughts(small), api.ErrUsed)
	wantProgram(t, c, 0, 2, noughts(small), api.OK)
	wantErase(t, c, 0, api.OK)
	wantProgram(t, c, 0, 0, noughts(small), api.OK)
}

func TestExampleOfACut(t *testing.T) {
	c := made(t, small)
	wantHits(t, c, []api.Hit{{After: 0, Mask: []byte{0x01}}}, api.OK)
	wantProgram(t, c, 0, 0, noughts(small), api.ErrDead)
	wantRead(t, c, 0, 0, nil, api.ErrDead)
	b, e := powered(t, c).Read(0, 0)
	if e != api.OK || len(b) != small.Size || b[0] != 0xfe {
		t.Errorf("Read = %x, %d", b, e)
	}
}

// P3.1: New, Load, Geo.

// wantGeo: there are chips of that geometry, or there are none.
func wantGeo(t *testing.T, g api.Geo, may bool) {
	t.Helper()
	e := api.ErrArg
	var b []byte
	if may {
		e, b = api.OK, make([]byte, total(g))
	}
	c, newE := nand.New(g)
	if newE != e || (c != nil) != may {
		t.Errorf("New(%v) = %v, %d; want %d", g, c != nil, newE, e)
	}
	d, loadE := nand.Load(g, b, nil)
	if loadE != e || (d != nil) != may {
		t.Errorf("Load(%v) = %v, %d; want %d", g, d != nil, loadE, e)
	}
	if may && (c.Geo() != g || d.Geo() != g) {
		t.Errorf("Geo() = %v, %v; want %v", c.Geo(), d.Geo(), g)
	}
}

func TestBoundsOfAGeometry(t *testing.T) {
	for i, bound := range []struct{ least, most int }{{8, 64}, {4, 32}, {128, 256}, {0, 4}} {
		with := func(n int) api.Geo {
			g := odd
			*[]*int{&g.Blocks, &g.Pages, &g.Size, &g.Spares}[i] = n
			return g
		}
		for _, n := range []int{bound.least, bound.least + 1, bound.most - 1, bound.most} {
			wantGeo(t, with(n), true)
		}
		for _, n := range []int{bound.least - 1, bound.most + 1, -bound.least, -bound.most, math.MinInt, math.MaxInt, 1<<32 + bound.most, -1} {
			wantGeo(t, with(n), n == bound.least)
		}
	}
	wantGeo(t, api.Geo{}, false)
	wantGeo(t, small, true)
	wantGeo(t, large, true)
}

// Products of these leave what an int holds, or come to 0.
func TestGeometryThatNoProductHolds(t *testing.T) {
	for _, n := range []int{1 << 31, 1 << 32, 1 << 62, math.MaxInt, math.MinInt} {
		wantGeo(t, api.Geo{Blocks: n, Pages: n, Size: n, Spares: 0}, false)
		wantGeo(t, api.Geo{Blocks: n, Pages: 4, Size: 128, Spares: 0}, false)
	}
}

func TestNewIsErased(t *testing.T) {
	for _, g := range geos {
		c := made(t, g)
		wantBytes(t, c, ones(total(g)))
		wantBad(t, c)
		wantDeeds(t, c, 0)
		for block := range g.Blocks {
			for page := range g.Pages {
				wantRead(t, c, block, page, ones(g.Size), api.OK)
			}
		}
	}
}

func TestLoadHasTheBytesPageByPage(t *testing.T) {
	for _, g := range geos {
		b := counting(total(g))
		c := loaded(t, g, b)
		rest := b
		for block := range g.Blocks {
			for page := range g.Pages {
				wantRead(t, c, block, page, rest[:g.Size], api.OK)
				rest = rest[g.Size:]
			}
		}
		wantBytes(t, c, b)
		wantBad(t, c)
		wantDeeds(t, c, 0)
	}
}

func TestLoadOfAnotherNumberOfBytes(t *testing.T) {
	for _, g := range geos {
		n := total(g)
		for _, n := range []int{0, 1, n - g.Size, n - 1, n + 1, n + g.Size, 2 * n} {
			if c, e := nand.Load(g, counting(n), nil); c != nil || e != api.ErrArg {
				t.Errorf("Load(%v, %d bytes) = %v, %d", g, n, c != nil, e)
			}
		}
	}
}

func TestLoadOfBadBlocks(t *testing.T) {
	for _, g := range geos {
		var all []int
		for block := range g.Blocks {
			all = append(all, block)
			wantBad(t, loaded(t, g, counting(total(g)), block), block)
		}
		last := g.Blocks - 1
		wantBad(t, loaded(t, g, counting(total(g)), all...), all...)
		wantBad(t, loaded(t, g, counting(total(g)), last, 2, last, 0, 2), 0, 2, last)
		wantBad(t, loaded(t, g, counting(total(g)), []int{}...))
		for _, none := range []int{-1, g.Blocks, g.Blocks + 1, math.MinInt, math.MaxInt, 1<<32 + 1} {
			for _, bad := range [][]int{{none}, {0, none}, {none, last}, {0, none, last}} {
				if c, e := nand.Load(g, counting(total(g)), bad); c != nil || e != api.ErrArg {
					t.Errorf("Load(%v, bad %v) = %v, %d", g, bad, c != nil, e)
				}
			}
		}
	}
}

// P3.2: Read, Program, Erase.

func TestProgramIsRead(t *testing.T) {
	for _, g := range geos {
		c := made(t, g)
		want := ones(total(g))
		deeds := 0
		for block := range g.Blocks {
			for page := range g.Pages {
				b := counting(g.Size + deeds)[deeds:]
				wantProgram(t, c, block, page, b, api.OK)
				wantRead(t, c, block, page, b, api.OK)
				copy(want[at(g, block, page):], b)
				deeds++
			}
			wantBytes(t, c, want)
		}
		wantDeeds(t, c, deeds)
		wantBad(t, c)
	}
}

func TestProgramOfUsedPages(t *testing.T) {
	for _, g := range []api.Geo{small, odd} {
		for used := range g.Pages {
			b := ones(total(g))
			copy(b[at(g, 3, used):], counting(g.Size))
			for page := range g.Pages {
				c := loaded(t, g, b)
				if page > used {
					wantProgram(t, c, 3, page, noughts(g), api.OK)
					continue
				}
				wantProgram(t, c, 3, page, noughts(g), api.ErrUsed)
				wantProgram(t, c, 3, page, ones(g.Size), api.ErrUsed)
				wantBytes(t, c, b)
				wantDeeds(t, c, 0)
				wantProgram(t, c, 2, page, noughts(g), api.OK)
				wantProgram(t, c, 4, page, noughts(g), api.OK)
			}
		}
	}
}

// One bit of 0 is enough to be used, wherever it stands; those of other blocks
// do not count, be they as near as may be.
func TestProgramBesideOneBit(t *testing.T) {
	for page := range odd.Pages {
		for other := range odd.Blocks * odd.Pages {
			for _, place := range []int{0, odd.Size / 2, odd.Size - 1} {
				for _, bit := range []int{0, 3, 7} {
					b := ones(total(odd))
					b[other*odd.Size+place] ^= 1 << bit
					want := api.OK
					if other/odd.Pages == 3 && other%odd.Pages >= page {
						want = api.ErrUsed
					}
					wantProgram(t, loaded(t, odd, b), 3, page, noughts(odd), want)
				}
			}
		}
	}
}

func TestProgramOfBlankBytes(t *testing.T) {
	c := made(t, small)
	wantProgram(t, c, 1, 2, ones(small.Size), api.OK)
	wantBytes(t, c, ones(total(small)))
	wantProgram(t, c, 1, 1, ones(small.Size), api.OK)
	wantDeeds(t, c, 2)
	wantProgram(t, c, 1, 2, noughts(small), api.OK)
	wantRead(t, c, 1, 2, noughts(small), api.OK)
}

func TestEraseOfEachBlock(t *testing.T) {
	for _, g := range geos {
		want := counting(total(g))
		c := loaded(t, g, want)
		for n, block := range rand.New(rand.NewSource(1)).Perm(g.Blocks) {
			wantErase(t, c, block, api.OK)
			copy(want[at(g, block, 0):], ones(g.Pages*g.Size))
			wantBytes(t, c, want)
			wantDeeds(t, c, n+1)
		}
		wantErase(t, c, 0, api.OK)
		wantBad(t, c)
	}
}

func TestErasedIsFreeAgain(t *testing.T) {
	c := loaded(t, odd, counting(total(odd)))
	for page := range odd.Pages {
		wantProgram(t, c, 10, page, noughts(odd), api.ErrUsed)
	}
	wantErase(t, c, 10, api.OK)
	for page := range odd.Pages {
		wantProgram(t, c, 10, page, noughts(odd), api.OK)
	}
	wantProgram(t, c, 9, 4, noughts(odd), api.ErrUsed)
}

// noIndexes are places that none of n things stands at.
func noIndexes(n int) []int {
	return []int{-1, -n, n, n + 1, 2 * n, math.MinInt, math.MaxInt, 1 << 32, 1<<62 + 1}
}

func TestNoSuchBlockOrPage(t *testing.T) {
	for _, g := range geos {
		b := ones(total(g))
		c := loaded(t, g, b, 1)
		for _, block := range noIndexes(g.Blocks) {
			for page := range g.Pages {
				wantRead(t, c, block, page, nil, api.ErrArg)
				wantProgram(t, c, block, page, noughts(g), api.ErrArg)
			}
			wantErase(t, c, block, api.ErrArg)
			for _, page := range noIndexes(g.Pages) {
				wantRead(t, c, block, page, nil, api.ErrArg)
				wantProgram(t, c, block, page, noughts(g), api.ErrArg)
			}
		}
		for _, page := range noIndexes(g.Pages) {
			for block := range g.Blocks {
				wantRead(t, c, block, page, nil, api.ErrArg)
				wantProgram(t, c, block, page, noughts(g), api.ErrArg)
			}
		}
		wantBytes(t, c, b)
		wantDeeds(t, c, 0)
		wantBad(t, c, 1)
	}
}

func TestProgramOfAnotherNumberOfBytes(t *testing.T) {
	for _, g := range geos {
		c := loaded(t, g, ones(total(g)), 1)
		for _, n := range []int{0, 1, g.Size - 1, g.Size + 1, 2 * g.Size, g.Pages * g.Size} {
			for block := range 2 {
				wantProgram(t, c, block, 0, make([]byte, n), api.ErrArg)
				wantProgram(t, c, block, g.Pages-1, make([]byte, n), api.ErrArg)
			}
		}
		wantProgram(t, c, 0, 0, nil, api.ErrArg)
		wantBytes(t, c, ones(total(g)))
		wantDeeds(t, c, 0)
		wantProgram(t, c, 0, g.Pages-1, noughts(g), api.OK)
	}
}

func TestBadBlockIsReadAlone(t *testing.T) {
	b := counting(total(odd))
	copy(b[at(odd, 7, 0):], ones(odd.Pages*odd.Size))
	c := loaded(t, odd, b, 4, 7)
	for _, block := range []int{4, 7} {
		for page := range odd.Pages {
			wantProgram(t, c, block, page, noughts(odd), api.ErrBad)
			from := at(odd, block, page)
			wantRead(t, c, block, page, b[from:from+odd.Size], api.OK)
		}
		wantErase(t, c, block, api.ErrBad)
	}
	wantBytes(t, c, b)
	wantBad(t, c, 4, 7)
	wantDeeds(t, c, 0)
	wantErase(t, c, 5, api.OK)
	wantErase(t, c, 8, api.OK)
}

// Which error comes first: ErrNil, ErrDead, ErrArg, ErrBad, ErrUsed.
func TestTheFirstErrorIsAnswered(t *testing.T) {
	used := counting(total(small))
	none := (*nand.Chip)(nil)
	cut := dead(t, small, used, 1)
	alive := loaded(t, small, used, 1)
	short := make([]byte, small.Size-1)

	for _, l := range []struct {
		c    *nand.Chip
		with api.Errno
		bad  api.Errno
		used api.Errno
	}{
		{none, api.ErrNil, api.ErrNil, api.ErrNil},
		{new(nand.Chip), api.ErrNil, api.ErrNil, api.ErrNil},
		{cut, api.ErrDead, api.ErrDead, api.ErrDead},
		{alive, api.ErrArg, api.ErrBad, api.ErrUsed},
	} {
		wantRead(t, l.c, -1, 0, nil, l.with)
		wantRead(t, l.c, 1, 4, nil, l.with)
		wantErase(t, l.c, 8, l.with)
		for block := range 2 {
			wantProgram(t, l.c, block, 4, noughts(small), l.with)
			wantProgram(t, l.c, block, -1, short, l.with)
			wantProgram(t, l.c, block, 0, short, l.with)
		}
		wantProgram(t, l.c, 8, 0, noughts(small), l.with)
		wantProgram(t, l.c, 1, 0, noughts(small), l.bad)
		wantErase(t, l.c, 1, l.bad)
		wantProgram(t, l.c, 0, 0, noughts(small), l.used)
	}
}

// P3.3: Hits. What a struck deed leaves is held against these, bit by bit, by
// divisions and products, where the layer goes by shifts and masks.

func bitOf(b []byte, i int) int {
	x := int(b[i/8])
	for range i % 8 {
		x /= 2
	}
	return x % 2
}

func withBit(b []byte, i, to int) {
	weight := 1
	for range i % 8 {
		weight *= 2
	}
	b[i/8] = byte(int(b[i/8]) + (to-bitOf(b, i))*weight)
}

// left answers what a struck deed leaves of what was, on the way to what was to
// be.
func left(was, goal, mask []byte) []byte {
	out := bytes.Clone(was)
	for i := range 8 * len(was) {
		if len(mask) > 0 && bitOf(mask, i%(8*len(mask))) == 1 {
			withBit(out, i, bitOf(goal, i))
		}
	}
	return out
}

// masks are none, shorter ones than a page of the geometry, as long ones, longer
// ones, up to a block's and more.
func masks(g api.Geo) [][]byte {
	block := g.Pages * g.Size
	out := [][]byte{nil, {}, {0}, {0xff}, {0x01}, {0x80}, {0x0f}, {0, 0xff}, {0xff, 0, 0}, append(make([]byte, g.Size), 0xff)}
	for _, n := range []int{2, 3, 7, g.Size - 1, g.Size, g.Size + 1, block - 1, block, block + 1, 2 * block} {
		out = append(out, counting(n))
	}
	return out
}

func TestWhatACutProgramLeaves(t *testing.T) {
	for _, g := range geos {
		for _, mask := range masks(g) {
			for _, fails := range []bool{false, true} {
				for _, b := range [][]byte{noughts(g), counting(g.Size), ones(g.Size)} {
					wantStruckProgram(t, g, api.Hit{Fails: fails, Mask: mask}, b)
				}
			}
		}
	}
}

func wantStruckProgram(t *testing.T, g api.Geo, hit api.Hit, b []byte) {
	t.Helper()
	c := made(t, g)
	wantHits(t, c, []api.Hit{hit}, api.OK)
	want := ones(total(g))
	copy(want[at(g, 6, 1):], left(ones(g.Size), b, hit.Mask))
	if hit.Fails {
		wantProgram(t, c, 6, 1, b, api.ErrBad)
		wantBad(t, c, 6)
	} else {
		wantProgram(t, c, 6, 1, b, api.ErrDead)
		wantBad(t, c)
	}
	wantBytes(t, c, want)
	wantDeeds(t, c, 1)
}

func TestWhatACutEraseLeaves(t *testing.T) {
	for _, g := range geos {
		for _, mask := range masks(g) {
			for _, fails := range []bool{false, true} {
				for _, b := range [][]byte{make([]byte, total(g)), counting(total(g)), ones(total(g))} {
					wantStruckErase(t, g, api.Hit{Fails: fails, Mask: mask}, b)
				}
			}
		}
	}
}

func wantStruckErase(t *testing.T, g api.Geo, hit api.Hit, b []byte) {
	t.Helper()
	c := loaded(t, g, b)
	wantHits(t, c, []api.Hit{hit}, api.OK)
	want := bytes.Clone(b)
	from, to := at(g, 6, 0), at(g, 7, 0)
	copy(want[from:], left(b[from:to], ones(to-from), hit.Mask))
	if hit.Fails {
		wantErase(t, c, 6, api.ErrBad)
		wantBad(t, c, 6)
	} else {
		wantErase(t, c, 6, api.ErrDead)
		wantBad(t, c)
	}
	wantBytes(t, c, want)
	wantDeeds(t, c, 1)
}

// The same by hand, for one page and one block.
func TestMaskByHand(t *testing.T) {
	c := made(t, small)
	wantHits(t, c, []api.Hit{{Mask: []byte{0x0f, 0x80, 0x00}}}, api.OK)
	wantProgram(t, c, 0, 0, append([]byte{0x35, 0x00, 0x00, 0xf0, 0xff}, ones(123)...), api.ErrDead)
	wantRead(t, powered(t, c), 0, 0, append([]byte{0xf5, 0x7f, 0xff, 0xf0, 0xff}, ones(123)...), api.OK)

	b := make([]byte, total(small))
	c = loaded(t, small, b)
	wantHits(t, c, []api.Hit{{Fails: true, Mask: append([]byte{0x05}, make([]byte, 199)...)}}, api.OK)
	wantErase(t, c, 2, api.ErrBad)
	for _, i := range []int{0, 200, 400} {
		b[at(small, 2, 0)+i] = 0x05
	}
	wantBytes(t, c, b)
}

// The bits go by what is changed, not by the chip's own: the mask begins with
// the page that is programmed, with the block that is erased.
func TestMaskBeginsWithWhatIsChanged(t *testing.T) {
	mask := counting(7)
	for block := range odd.Blocks {
		for page := range odd.Pages {
			c := made(t, odd)
			wantHits(t, c, []api.Hit{{Mask: mask}}, api.OK)
			wantProgram(t, c, block, page, noughts(odd), api.ErrDead)
			wantRead(t, powered(t, c), block, page, left(ones(odd.Size), noughts(odd), mask), api.OK)
		}
	}
}

// wantErases: that many erases, one behind the other, are answered with OK.
func wantErases(t *testing.T, c *nand.Chip, n int) {
	t.Helper()
	for range n {
		wantErase(t, c, 0, api.OK)
	}
}

func TestHitStrikesBehindSoMany(t *testing.T) {
	for after := range 20 {
		c := made(t, small)
		wantHits(t, c, []api.Hit{{After: after}}, api.OK)
		wantErases(t, c, after)
		wantErase(t, c, 0, api.ErrDead)
		wantDeeds(t, c, after+1)
	}
}

func TestProgramsAndErasesCountAlike(t *testing.T) {
	c := made(t, small)
	wantHits(t, c, []api.Hit{{After: 4}}, api.OK)
	wantProgram(t, c, 0, 0, noughts(small), api.OK)
	wantErase(t, c, 5, api.OK)
	wantProgram(t, c, 0, 1, ones(small.Size), api.OK)
	wantErase(t, c, 0, api.OK)
	wantProgram(t, c, 1, 0, noughts(small), api.ErrDead)
	wantDeeds(t, c, 5)
}

// What is read, looked at, or refused otherwise is no deed: no hit counts it,
// and none strikes it.
func TestHitsCountDeedsAlone(t *testing.T) {
	none := func(c *nand.Chip) {
		wantRead(t, c, 0, 0, ones(small.Size), api.OK)
		wantRead(t, c, 8, 0, nil, api.ErrArg)
		wantProgram(t, c, 0, 4, noughts(small), api.ErrArg)
		wantProgram(t, c, 0, 0, noughts(small)[1:], api.ErrArg)
		wantProgram(t, c, 1, 0, noughts(small), api.ErrUsed)
		wantProgram(t, c, 2, 0, noughts(small), api.ErrBad)
		wantErase(t, c, 2, api.ErrBad)
		wantErase(t, c, -1, api.ErrArg)
		c.Bytes()
		powered(t, c)
	}
	b := ones(total(small))
	b[at(small, 1, 3)] = 0
	for after := range 4 {
		c := loaded(t, small, b, 2)
		wantHits(t, c, []api.Hit{{After: after, Mask: []byte{0xff}}}, api.OK)
		for n := range after {
			none(c)
			wantDeeds(t, c, n)
			wantErase(t, c, 7, api.OK)
		}
		none(c)
		wantDeeds(t, c, after)
		wantBytes(t, c, b)
		wantErase(t, c, 7, api.ErrDead)
		wantDeeds(t, c, after+1)
	}
}

// The next one counts from the one before, which is not counted itself.
func TestHitsOneBehindTheOther(t *testing.T) {
	c := made(t, small)
	wantHits(t, c, []api.Hit{
		{After: 2, Fails: true},
		{After: 0, Fails: true},
		{After: 1, Fails: true},
		{After: 3},
		{After: 0, Fails: true},
	}, api.OK)
	wantErases(t, c, 2)
	wantErase(t, c, 1, api.ErrBad)
	wantErase(t, c, 2, api.ErrBad)
	wantErases(t, c, 1)
	wantErase(t, c, 3, api.ErrBad)
	wantErase(t, c, 3, api.ErrBad)
	wantErases(t, c, 3)
	wantBad(t, c, 1, 2, 3)
	wantErase(t, c, 4, api.ErrDead)
	wantErase(t, c, 0, api.ErrDead)
	wantBad(t, c, 1, 2, 3)
	wantDeeds(t, c, 10)
}

// A hit that fails makes its block bad, no other one, and the chip goes on.
func TestBehindAHitThatFails(t *testing.T) {
	c := made(t, small)
	wantProgram(t, c, 3, 0, counting(small.Size), api.OK)
	wantHits(t, c, []api.Hit{{Fails: true, Mask: []byte{0xf0}}}, api.OK)
	wantProgram(t, c, 3, 1, noughts(small), api.ErrBad)
	wantRead(t, c, 3, 0, counting(small.Size), api.OK)
	wantRead(t, c, 3, 1, bytes.Repeat([]byte{0x0f}, small.Size), api.OK)
	wantProgram(t, c, 3, 2, noughts(small), api.ErrBad)
	wantErase(t, c, 3, api.ErrBad)
	wantDeeds(t, c, 2)
	wantProgram(t, c, 2, 1, noughts(small), api.OK)
	wantProgram(t, c, 4, 1, noughts(small), api.OK)
	wantErase(t, c, 4, api.OK)
	wantDeeds(t, c, 5)
	wantBad(t, c, 3)
}

func TestEachListOfHitsBeginsAnew(t *testing.T) {
	c := made(t, small)
	wantHits(t, c, []api.Hit{{After: 3}}, api.OK)
	wantErases(t, c, 2)
	wantHits(t, c, []api.Hit{{After: 3}}, api.OK)
	wantErases(t, c, 3)
	wantHits(t, c, []api.Hit{{After: 1, Fails: true}, {After: 0}}, api.OK)
	wantErases(t, c, 1)
	wantErase(t, c, 7, api.ErrBad)
	wantHits(t, c, []api.Hit{}, api.OK)
	wantErases(t, c, 5)
	wantHits(t, c, []api.Hit{{After: 0}}, api.OK)
	wantHits(t, c, nil, api.OK)
	wantErases(t, c, 5)
	wantDeeds(t, c, 17)
}

// One After below 0, and the hits that were strike still, counting on.
func TestHitsBelowNought(t *testing.T) {
	for _, l := range [][]api.Hit{
		{{After: -1}},
		{{After: math.MinInt}},
		{{After: -1, Fails: true, Mask: []byte{1}}},
		{{After: 0}, {After: -1}},
		{{After: -2}, {After: 0}},
		{{After: 0}, {After: 5}, {After: -1}},
	} {
		c := made(t, small)
		wantHits(t, c, l, api.ErrArg)
		wantErases(t, c, 9)
		wantHits(t, c, []api.Hit{{After: 2, Fails: true}}, api.OK)
		wantErases(t, c, 1)
		wantHits(t, c, l, api.ErrArg)
		wantErases(t, c, 1)
		wantErase(t, c, 0, api.ErrBad)
		wantErase(t, c, 1, api.OK)
	}
}

func TestHitBehindMoreDeedsThanThereAre(t *testing.T) {
	c := made(t, small)
	wantHits(t, c, []api.Hit{{After: math.MaxInt}, {After: math.MaxInt}, {}}, api.OK)
	wantErases(t, c, 1000)
	wantDeeds(t, c, 1000)
}

// Behind a cut.

func TestBehindACutAllIsDead(t *testing.T) {
	b := counting(total(odd))
	copy(b[at(odd, 2, 0):], ones(odd.Pages*odd.Size))
	c := loaded(t, odd, b, 5)
	wantHits(t, c, []api.Hit{{After: 1, Mask: []byte{0x3c}}, {After: 0, Fails: true, Mask: []byte{0xff}}}, api.OK)
	wantErase(t, c, 9, api.OK)
	copy(b[at(odd, 9, 0):], ones(odd.Pages*odd.Size))
	wantProgram(t, c, 2, 3, noughts(odd), api.ErrDead)
	copy(b[at(odd, 2, 3):], bytes.Repeat([]byte{0xc3}, odd.Size))

	for range 2 {
		for block := -1; block <= odd.Blocks; block++ {
			for page := -1; page <= odd.Pages; page++ {
				wantRead(t, c, block, page, nil, api.ErrDead)
				wantProgram(t, c, block, page, noughts(odd), api.ErrDead)
				wantProgram(t, c, block, page, nil, api.ErrDead)
			}
			wantErase(t, c, block, api.ErrDead)
		}
		wantBytes(t, c, b)
		wantBad(t, c, 5)
		wantDeeds(t, c, 2)
		if c.Geo() != odd {
			t.Errorf("Geo() = %v", c.Geo())
		}
		wantHits(t, c, []api.Hit{{After: -1}}, api.ErrArg)
		wantHits(t, c, nil, api.OK)
	}
	wantBytes(t, powered(t, c), b)
}

// P3.3: Power.

func TestPowerHasTheBytesAndTheBadBlocks(t *testing.T) {
	for _, g := range geos {
		b := counting(total(g))
		for _, c := range []*nand.Chip{loaded(t, g, b, 2, g.Blocks-1), dead(t, g, b, 2, g.Blocks-1)} {
			p := powered(t, c)
			if p == c {
				t.Error("Power answers the chip itself")
			}
			if p.Geo() != g {
				t.Errorf("Geo() = %v; want %v", p.Geo(), g)
			}
			wantBytes(t, p, b)
			wantBad(t, p, 2, g.Blocks-1)
			wantDeeds(t, p, 0)
			wantRead(t, p, 0, 0, b[:g.Size], api.OK)
			wantErase(t, p, g.Blocks-1, api.ErrBad)
			wantErase(t, p, 1, api.OK)
			wantDeeds(t, p, 1)
		}
	}
}

func TestPowerHasNoHits(t *testing.T) {
	c := made(t, small)
	wantHits(t, c, []api.Hit{{After: 2, Fails: true}, {After: 0}, {After: 0}}, api.OK)
	wantErases(t, c, 1)
	wantErases(t, powered(t, c), 9)
	wantErases(t, c, 1)
	wantErase(t, c, 3, api.ErrBad)
	wantErases(t, powered(t, c), 9)
	wantErase(t, c, 4, api.ErrDead)
	p := powered(t, c)
	wantErases(t, p, 9)
	wantDeeds(t, p, 9)
	wantBad(t, p, 3)
	wantErase(t, c, 4, api.ErrDead)
	wantDeeds(t, c, 4)
}

// What is done to the one does not change the other, whichever it is.
func TestPowerIsAnotherChip(t *testing.T) {
	b := ones(total(odd))
	for _, swapped := range []bool{false, true} {
		one := loaded(t, odd, b, 5)
		other := powered(t, one)
		if swapped {
			one, other = other, one
		}
		wantHits(t, one, []api.Hit{{After: 1, Fails: true}, {After: 1}}, api.OK)
		wantProgram(t, one, 0, 0, noughts(odd), api.OK)
		wantErase(t, one, 3, api.ErrBad)
		wantProgram(t, one, 0, 1, noughts(odd), api.OK)
		wantErase(t, one, 0, api.ErrDead)
		wantBad(t, one, 3, 5)

		wantBytes(t, other, b)
		wantBad(t, other, 5)
		wantDeeds(t, other, 0)
		wantRead(t, other, 0, 0, ones(odd.Size), api.OK)
		wantProgram(t, other, 10, 4, counting(odd.Size), api.OK)
		wantErase(t, other, 3, api.OK)
		wantDeeds(t, one, 4)
		if got := one.Bytes(); !bytes.Equal(got[at(odd, 10, 4):], ones(odd.Size)) {
			t.Error("what is done to the other chip changed this one")
		}
	}
}

// Cut again and again, each time from what the last cut left.
func TestPowerBehindPower(t *testing.T) {
	c := made(t, small)
	want := ones(total(small))
	for page := range small.Pages {
		wantHits(t, c, []api.Hit{{Mask: []byte{byte(1 << page)}}}, api.OK)
		wantProgram(t, c, 2, page, noughts(small), api.ErrDead)
		copy(want[at(small, 2, page):], bytes.Repeat([]byte{0xff - byte(1<<page)}, small.Size))
		wantBytes(t, c, want)
		c = powered(t, c)
		wantBytes(t, c, want)
	}
	for bit := range 3 {
		wantHits(t, c, []api.Hit{{Mask: []byte{byte(1 << bit)}}}, api.OK)
		wantErase(t, c, 2, api.ErrDead)
		for i := range small.Pages * small.Size {
			want[at(small, 2, 0)+i] |= byte(1 << bit)
		}
		c = powered(t, c)
		wantBytes(t, c, want)
	}
}

// P3.4: looks.

func TestLooks(t *testing.T) {
	c := loaded(t, odd, ones(total(odd)), 10)
	wantBad(t, c, 10)
	for _, block := range noIndexes(odd.Blocks) {
		if c.Bad(block) {
			t.Errorf("Bad(%d), which there is not", block)
		}
	}
	wantHits(t, c, []api.Hit{{After: 1, Fails: true, Mask: []byte{1}}, {After: 1}}, api.OK)
	wantErase(t, c, 0, api.OK)
	wantDeeds(t, c, 1)
	wantProgram(t, c, 1, 4, noughts(odd), api.ErrBad)
	wantDeeds(t, c, 2)
	wantBad(t, c, 1, 10)
	wantProgram(t, c, 1, 4, noughts(odd), api.ErrBad)
	wantErase(t, c, 10, api.ErrBad)
	wantDeeds(t, c, 2)
	wantProgram(t, c, 2, 0, noughts(odd), api.OK)
	wantProgram(t, c, 2, 0, noughts(odd), api.ErrUsed)
	wantDeeds(t, c, 3)
	wantErase(t, c, 3, api.ErrDead)
	wantDeeds(t, c, 4)
	wantErase(t, c, 3, api.ErrDead)
	wantDeeds(t, c, 4)
	wantBad(t, c, 1, 10)
	if got := c.Bytes(); len(got) != total(odd) || got[at(odd, 1, 4)] != 0xfe || got[at(odd, 2, 0)] != 0 {
		t.Errorf("Bytes() of a dead chip: %d of them", len(got))
	}
}

func TestOfNoChip(t *testing.T) {
	for _, c := range []*nand.Chip{nil, new(nand.Chip)} {
		for range 2 {
			if g := c.Geo(); g != (api.Geo{}) {
				t.Errorf("Geo() = %v", g)
			}
			for _, n := range []int{math.MinInt, -1, 0, 1, 7, math.MaxInt} {
				wantRead(t, c, n, 0, nil, api.ErrNil)
				wantRead(t, c, 0, n, nil, api.ErrNil)
				wantProgram(t, c, n, n, nil, api.ErrNil)
				wantErase(t, c, n, api.ErrNil)
			}
			wantProgram(t, c, 0, 0, noughts(small), api.ErrNil)
			wantHits(t, c, nil, api.ErrNil)
			wantHits(t, c, []api.Hit{{}}, api.ErrNil)
			wantHits(t, c, []api.Hit{{After: -1}}, api.ErrNil)
			if p, e := c.Power(); p != nil || e != api.ErrNil {
				t.Errorf("Power() = %v, %d", p != nil, e)
			}
			wantBad(t, c)
			wantDeeds(t, c, 0)
			wantBytes(t, c, nil)
		}
	}
}

// P3.5.

// hitOf answers a hit with a mask of whatever length and thickness.
func hitOf(r *rand.Rand, g api.Geo) api.Hit {
	mask := make([]byte, []int{0, 1, 2, 1 + r.Intn(9), g.Size, 1 + r.Intn(2*g.Size), g.Pages * g.Size}[r.Intn(7)])
	more := make([]byte, len(mask))
	r.Read(mask)
	for range r.Intn(4) {
		r.Read(more)
		for i := range mask {
			mask[i] &= more[i]
		}
	}
	return api.Hit{After: r.Intn(4), Fails: r.Intn(3) > 0, Mask: mask}
}

// bytesOf answers a page's bytes: whole ones, thin ones, none of 0.
func bytesOf(r *rand.Rand, g api.Geo) []byte {
	b := make([]byte, g.Size)
	switch r.Intn(5) {
	case 0:
		return b
	case 1:
		return ones(g.Size)
	}
	r.Read(b)
	return b
}

func isLessOrSame(a, b []byte) bool { return seal.Less(a, b) || bytes.Equal(a, b) }

// wantNoOtherChange: from n bytes on all is as it was but that.
func wantNoOtherChange(t *testing.T, was, is []byte, from, n int) {
	t.Helper()
	if !bytes.Equal(was[:from], is[:from]) || !bytes.Equal(was[from+n:], is[from+n:]) {
		t.Errorf("other bytes changed than the %d from %d on", n, from)
	}
}

func TestLessWhateverTheMask(t *testing.T) {
	r := rand.New(rand.NewSource(2))
	for _, g := range geos {
		for n := range 300 {
			hit := hitOf(r, g)
			hit.After = 0
			block, page := r.Intn(g.Blocks), r.Intn(g.Pages)

			c := made(t, g)
			was := c.Bytes()
			b := bytesOf(r, g)
			wantHits(t, c, []api.Hit{hit}, api.OK)
			c.Program(block, page, b)
			from := at(g, block, page)
			is := c.Bytes()
			if !isLessOrSame(is[from:from+g.Size], b) {
				t.Errorf("%d: a program leaves what is not less than the bytes", n)
			}
			wantNoOtherChange(t, was, is, from, g.Size)

			was = make([]byte, total(g))
			r.Read(was)
			c = loaded(t, g, was)
			wantHits(t, c, []api.Hit{hit}, api.OK)
			c.Erase(block)
			from, size := at(g, block, 0), g.Pages*g.Size
			is = c.Bytes()
			if !isLessOrSame(is[from:from+size], was[from:from+size]) {
				t.Errorf("%d: an erase leaves what is not less than what was", n)
			}
			wantNoOtherChange(t, was, is, from, size)
		}
	}
}

// plain is a chip once more, told as the chapter tells it.
type plain struct {
	g     api.Geo
	b     []byte
	bad   map[int]bool
	dead  bool
	deeds int
	hits  []api.Hit
	since int
}

func (p *plain) deed(block, from int, goal []byte) api.Errno {
	p.deeds++
	was := p.b[from : from+len(goal)]
	if len(p.hits) == 0 || p.since < p.hits[0].After {
		p.since++
		copy(was, goal)
		return api.OK
	}
	hit := p.hits[0]
	p.hits, p.since = p.hits[1:], 0
	copy(was, left(was, goal, hit.Mask))
	if hit.Fails {
		p.bad[block] = true
		return api.ErrBad
	}
	p.dead = true
	return api.ErrDead
}

func (p *plain) program(block, page int, b []byte) api.Errno {
	switch {
	case p.dead:
		return api.ErrDead
	case block < 0 || block >= p.g.Blocks || page < 0 || page >= p.g.Pages || len(b) != p.g.Size:
		return api.ErrArg
	case p.bad[block]:
		return api.ErrBad
	}
	for i := at(p.g, block, page); i < at(p.g, block+1, 0); i++ {
		if p.b[i] != 0xff {
			return api.ErrUsed
		}
	}
	return p.deed(block, at(p.g, block, page), b)
}

func (p *plain) erase(block int) api.Errno {
	switch {
	case p.dead:
		return api.ErrDead
	case block < 0 || block >= p.g.Blocks:
		return api.ErrArg
	case p.bad[block]:
		return api.ErrBad
	}
	return p.deed(block, at(p.g, block, 0), ones(p.g.Pages*p.g.Size))
}

func (p *plain) read(block, page int) ([]byte, api.Errno) {
	switch {
	case p.dead:
		return nil, api.ErrDead
	case block < 0 || block >= p.g.Blocks || page < 0 || page >= p.g.Pages:
		return nil, api.ErrArg
	}
	from := at(p.g, block, page)
	return p.b[from : from+p.g.Size], api.OK
}

func (p *plain) badOnes() []int {
	var out []int
	for block := range p.g.Blocks {
		if p.bad[block] {
			out = append(out, block)
		}
	}
	return out
}

// Whatever is done, the chip is as the plain one.
func TestAsThePlainOne(t *testing.T) {
	g := api.Geo{Blocks: 8, Pages: 5, Size: 129, Spares: 1}
	answers := map[string]int{}
	for seed := range 60 {
		r := rand.New(rand.NewSource(int64(seed)))
		b := ones(total(g))
		c, p := loaded(t, g, b, 6), &plain{g: g, b: b, bad: map[int]bool{6: true}}
		for range 120 {
			answers[doBoth(t, r, &c, p)]++
			wantBytes(t, c, p.b)
			wantBad(t, c, p.badOnes()...)
			wantDeeds(t, c, p.deeds)
			if t.Failed() {
				t.Fatalf("seed %d", seed)
			}
		}
	}
	for _, want := range []string{"program 0", "program 2", "program 8", "program 9", "program 10", "erase 0", "erase 2", "erase 9", "erase 10", "read 0", "read 2", "read 10"} {
		if answers[want] == 0 {
			t.Errorf("nothing was answered as %s: %v", want, answers)
		}
	}
}

// doBoth does one thing to both, and tells what it was, and its answer.
func doBoth(t *testing.T, r *rand.Rand, c **nand.Chip, p *plain) string {
	t.Helper()
	block, page := r.Intn(p.g.Blocks+1)-r.Intn(20)/19, r.Intn(p.g.Pages)+r.Intn(20)/19
	switch r.Intn(10) {
	case 0:
		var l []api.Hit
		for range r.Intn(4) {
			l = append(l, hitOf(r, p.g))
		}
		wantHits(t, *c, l, api.OK)
		p.hits, p.since = l, 0
		return "hits"
	case 1:
		*c = powered(t, *c)
		p.dead, p.deeds, p.hits, p.since = false, 0, nil, 0
		return "power"
	case 2, 3:
		e := p.erase(block)
		wantErase(t, *c, block, e)
		return fmt.Sprint("erase ", int(e))
	case 4:
		b, e := p.read(block, page)
		wantRead(t, *c, block, page, b, e)
		return fmt.Sprint("read ", int(e))
	}
	b := bytesOf(r, p.g)
	e := p.program(block, page, b)
	wantProgram(t, *c, block, page, b, e)
	return fmt.Sprint("program ", int(e))
}

// What a cut leaves of a sealed page is never another one.
func TestSealedPagesAreTornOrWhole(t *testing.T) {
	r := rand.New(rand.NewSource(4))
	page, e := seal.Put(small.Size, 2, []byte("what is written"))
	if e != api.OK {
		t.Fatal(e)
	}
	for range 500 {
		c := made(t, small)
		hit := hitOf(r, small)
		hit.After, hit.Fails = 0, false
		wantHits(t, c, []api.Hit{hit}, api.OK)
		wantProgram(t, c, 0, 0, page, api.ErrDead)
		b, _ := powered(t, c).Read(0, 0)
		if _, _, e := seal.Get(b); e != api.ErrBlank && e != api.ErrTorn && !bytes.Equal(b, page) {
			t.Errorf("what is left of a page is another one: %d", e)
		}
	}
}

// The rules: what is handed in, and what is answered.

func TestProgramLeavesItsBytes(t *testing.T) {
	whole := counting(small.Size + 300)
	c := loaded(t, small, ones(total(small)), 6)
	wantHits(t, c, []api.Hit{{After: 1, Fails: true, Mask: []byte{0x5a}}, {After: 1, Mask: []byte{0x5a}}}, api.OK)
	b := whole[:small.Size]
	wantProgram(t, c, 0, 0, b, api.OK)
	wantProgram(t, c, 0, 0, b, api.ErrUsed)
	wantProgram(t, c, 0, 1, whole[:small.Size+1], api.ErrArg)
	wantProgram(t, c, 6, 0, b, api.ErrBad)
	wantProgram(t, c, 1, 0, b, api.ErrBad)
	wantErase(t, c, 0, api.OK)
	wantProgram(t, c, 2, 0, b, api.ErrDead)
	wantProgram(t, c, 2, 0, b, api.ErrDead)
	if !bytes.Equal(whole, counting(small.Size+300)) {
		t.Error("Program changed its bytes, or the room behind them")
	}
}

func TestChipKeepsNothingOfWhatIsProgrammed(t *testing.T) {
	c := made(t, small)
	b := counting(small.Size)
	wantProgram(t, c, 0, 0, b, api.OK)
	clear(b)
	wantRead(t, c, 0, 0, counting(small.Size), api.OK)
	wantErase(t, c, 0, api.OK)
	wantProgram(t, c, 0, 0, b, api.OK)
	if !seal.Blank(c.Bytes()[small.Size:]) || !bytes.Equal(b, noughts(small)) {
		t.Error("an erase reaches what was programmed, or a page the next one")
	}
}

func TestLoadKeepsItsOwn(t *testing.T) {
	whole := counting(total(small) + 300)
	bad := []int{1, 5, 3, 7, 7}
	c := loaded(t, small, whole[:total(small)], bad[:3]...)
	wantErase(t, c, 7, api.OK)
	wantErase(t, c, 0, api.OK)
	wantProgram(t, c, 7, 3, noughts(small), api.OK)
	if !bytes.Equal(whole, counting(total(small)+300)) || !slices.Equal(bad, []int{1, 5, 3, 7, 7}) {
		t.Error("what was handed in has changed, or the room behind it")
	}
	want := c.Bytes()
	clear(whole)
	clear(bad)
	wantBytes(t, c, want)
	wantBad(t, c, 1, 3, 5)
}

func TestHitsKeepTheirOwn(t *testing.T) {
	masks := []byte{0x01, 0x02, 0x04, 0x08}
	l := []api.Hit{{Fails: true, Mask: masks[:2]}, {Fails: true, Mask: masks[2:3]}, {After: 1}, {After: 7}}
	c := made(t, small)
	wantHits(t, c, l[:3], api.OK)
	wantProgram(t, c, 0, 0, noughts(small), api.ErrBad)
	if !bytes.Equal(masks, []byte{1, 2, 4, 8}) || l[0].After != 0 || !l[0].Fails || len(l[0].Mask) != 2 || l[2].After != 1 || l[3].After != 7 {
		t.Errorf("Hits, or a hit, changed what was handed in: %v", l)
	}
	clear(masks)
	l[1], l[2] = api.Hit{After: 5}, api.Hit{}
	wantProgram(t, c, 1, 0, noughts(small), api.ErrBad)
	wantRead(t, c, 0, 0, bytes.Repeat([]byte{0xfe, 0xfd}, small.Size/2), api.OK)
	wantRead(t, c, 1, 0, bytes.Repeat([]byte{0xfb}, small.Size), api.OK)
	wantErase(t, c, 2, api.OK)
	wantErase(t, c, 2, api.ErrDead)
}

func TestHitsOfTwoChips(t *testing.T) {
	l := []api.Hit{{After: 2, Mask: []byte{0xf0}}}
	one, other := made(t, small), made(t, small)
	wantHits(t, one, l, api.OK)
	wantHits(t, other, l, api.OK)
	for _, c := range []*nand.Chip{one, other} {
		wantErases(t, c, 2)
		wantProgram(t, c, 0, 0, noughts(small), api.ErrDead)
		wantRead(t, powered(t, c), 0, 0, bytes.Repeat([]byte{0x0f}, small.Size), api.OK)
	}
}

func TestAnswersAreNewMemory(t *testing.T) {
	for _, alive := range []bool{true, false} {
		want := counting(total(odd))
		c := loaded(t, odd, want)
		if !alive {
			c = dead(t, odd, want)
		}
		one, other := c.Bytes(), c.Bytes()
		clear(one[:cap(one)])
		if !bytes.Equal(other, want) {
			t.Error("two answers of Bytes share memory")
		}
		wantBytes(t, c, want)
		c = powered(t, c)
		for block := range odd.Blocks {
			page := block % odd.Pages
			one, _ := c.Read(block, page)
			other, _ := c.Read(block, page)
			clear(one[:cap(one)])
			_ = append(one[:0], ones(3*odd.Size)...)
			if from := at(odd, block, page); !bytes.Equal(other, want[from:from+odd.Size]) {
				t.Error("two answers of Read share memory")
			}
		}
		wantBytes(t, c, want)
	}
}

// What was answered stays as it was, whatever is done to the chip then.
func TestAnswersStay(t *testing.T) {
	c := loaded(t, small, counting(total(small)))
	page, _ := c.Read(1, 2)
	all := c.Bytes()
	wantErase(t, c, 1, api.OK)
	wantProgram(t, c, 1, 2, noughts(small), api.OK)
	if from := at(small, 1, 2); !bytes.Equal(page, counting(total(small))[from:from+small.Size]) {
		t.Error("what Read answered has changed")
	}
	if !bytes.Equal(all, counting(total(small))) {
		t.Error("what Bytes answered has changed")
	}
}

// The same again comes to the same.
func TestTheSameAgain(t *testing.T) {
	run := func() (*nand.Chip, []api.Errno) {
		c := made(t, odd)
		r := rand.New(rand.NewSource(5))
		var l []api.Errno
		for range 20 {
			l = append(l, c.Hits([]api.Hit{hitOf(r, odd), hitOf(r, odd)}))
			for range 5 {
				l = append(l, c.Program(r.Intn(odd.Blocks), r.Intn(odd.Pages), bytesOf(r, odd)), c.Erase(r.Intn(odd.Blocks)))
			}
			c = powered(t, c)
		}
		return c, l
	}
	one, l := run()
	other, m := run()
	wantBytes(t, other, one.Bytes())
	if !slices.Equal(l, m) {
		t.Error("two runs were answered otherwise")
	}
}
