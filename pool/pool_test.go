package pool_test

import (
	"bytes"
	"fmt"
	"math"
	"math/rand"
	"slices"
	"testing"

	"carrack/api"
	"carrack/nand"
	"carrack/pool"
	"carrack/seal"
)

// small is the chapter's geometry; odd has numbers that no other one of it has,
// so that what is mixed up is told.
var (
	small = api.Geo{Blocks: 8, Pages: 4, Size: 128}
	odd   = api.Geo{Blocks: 11, Pages: 5, Size: 131, Spares: 3}
	large = api.Geo{Blocks: 64, Pages: 32, Size: 256, Spares: 4}
)

func ones(n int) []byte { return bytes.Repeat([]byte{0xff}, n) }

// bodyBytes are a head's, by hand.
func bodyBytes(h api.Head) []byte {
	b := []byte{h.Kind}
	for i := range 4 {
		b = append(b, byte(h.Era>>(8*i)))
	}
	for i := range 8 {
		b = append(b, byte(h.Seq>>(8*i)))
	}
	return b
}

func sealed(t *testing.T, size int, kind uint8, body []byte) []byte {
	t.Helper()
	b, e := seal.Put(size, kind, body)
	if e != api.OK {
		t.Fatalf("seal.Put(%d, %d, %x): %d", size, kind, body, e)
	}
	return b
}

// headPage is a head's page, by hand.
func headPage(t *testing.T, g api.Geo, h api.Head) []byte {
	t.Helper()
	return sealed(t, g.Size, 1, bodyBytes(h))
}

// put is what stands in one page of a chip.
type put struct {
	block, page int
	b           []byte
}

// chipOf answers a chip that has these pages, and is blank else.
func chipOf(t *testing.T, g api.Geo, bad []int, puts ...put) *nand.Chip {
	t.Helper()
	all := ones(g.Blocks * g.Pages * g.Size)
	for _, p := range puts {
		copy(all[(p.block*g.Pages+p.page)*g.Size:], p.b)
	}
	c, e := nand.Load(g, all, bad)
	if e != api.OK {
		t.Fatalf("Load: %d", e)
	}
	return c
}

// headed is a head in the first page of a block.
func headed(t *testing.T, g api.Geo, block int, kind uint8, era uint32, seq uint64) put {
	t.Helper()
	return put{block, 0, headPage(t, g, api.Head{Kind: kind, Era: era, Seq: seq})}
}

// junk is a page that is none.
func junk(g api.Geo, block, page int) put {
	return put{block, page, make([]byte, g.Size)}
}

func blankChip(t *testing.T, g api.Geo) *nand.Chip {
	t.Helper()
	return chipOf(t, g, nil)
}

func powered(t *testing.T, c *nand.Chip) *nand.Chip {
	t.Helper()
	p, e := c.Power()
	if e != api.OK {
		t.Fatalf("Power: %d", e)
	}
	return p
}

func strike(t *testing.T, c *nand.Chip, l ...api.Hit) {
	t.Helper()
	if e := c.Hits(l); e != api.OK {
		t.Fatalf("Hits(%v): %d", l, e)
	}
}

// kill cuts the chip's power without a change of its bytes.
func kill(t *testing.T, c *nand.Chip) {
	t.Helper()
	strike(t, c, api.Hit{})
	for i := range c.Geo().Blocks {
		if c.Bad(i) {
			continue
		}
		if e := c.Erase(i); e != api.ErrDead {
			t.Fatalf("Erase(%d): %d", i, e)
		}
		return
	}
	t.Fatal("all blocks are bad")
}

func scanned(t *testing.T, c *nand.Chip) *pool.Pool {
	t.Helper()
	p, e := pool.Scan(c)
	if e != api.OK || p == nil {
		t.Fatalf("Scan: %v, %d", p, e)
	}
	return p
}

func wantTake(t *testing.T, p *pool.Pool, kind uint8, era uint32, block int, e api.Errno) {
	t.Helper()
	if gotBlock, got := p.Take(kind, era); gotBlock != block || got != e {
		t.Fatalf("Take(%d, %d) = %d, %d, not %d, %d", kind, era, gotBlock, got, block, e)
	}
}

func wantFree(t *testing.T, p *pool.Pool, block int, e api.Errno) {
	t.Helper()
	if got := p.Free(block); got != e {
		t.Fatalf("Free(%d) = %d, not %d", block, got, e)
	}
}

// looks are what a pool tells.
type looks struct {
	taken  []api.Taken
	blanks int
	last   uint64
}

func looksOf(p *pool.Pool) looks { return looks{p.Taken(), p.Blanks(), p.Last()} }

func (l looks) same(m looks) bool {
	return slices.Equal(l.taken, m.taken) && l.blanks == m.blanks && l.last == m.last
}

func wantLooks(t *testing.T, p *pool.Pool, blanks int, last uint64, taken ...api.Taken) {
	t.Helper()
	got, want := looksOf(p), looks{taken, blanks, last}
	if !got.same(want) {
		t.Fatalf("the pool tells %v, not %v", got, want)
	}
}

// of is a block that is taken, and not bad.
func of(block int, kind uint8, era uint32, seq uint64) api.Taken {
	return api.Taken{Block: block, Head: api.Head{Kind: kind, Era: era, Seq: seq}}
}

// badOf is likewise one that is bad.
func badOf(block int, kind uint8, era uint32, seq uint64) api.Taken {
	k := of(block, kind, era, seq)
	k.Bad = true
	return k
}

func wantPage(t *testing.T, c *nand.Chip, block, page int, want []byte) {
	t.Helper()
	if b, e := c.Read(block, page); e != api.OK || !bytes.Equal(b, want) {
		t.Fatalf("page %d, %d: %x, %d, not %x", block, page, b, e, want)
	}
}

func wantDeeds(t *testing.T, c *nand.Chip, n int) {
	t.Helper()
	if got := c.Deeds(); got != n {
		t.Fatalf("%d deeds, not %d", got, n)
	}
}

func wantBytes(t *testing.T, c *nand.Chip, want []byte) {
	t.Helper()
	if !bytes.Equal(c.Bytes(), want) {
		t.Fatal("the chip's bytes are others")
	}
}

// The chapter's examples.

func TestExampleOfThePool(t *testing.T) {
	p := scanned(t, blankChip(t, small))
	wantLooks(t, p, 8, 0)
	wantTake(t, p, 1, 1, 0, api.OK)
	wantTake(t, p, 2, 1, 1, api.OK)
	taken := []api.Taken{of(0, 1, 1, 1), of(1, 2, 1, 2)}
	wantLooks(t, p, 6, 2, taken...)
	wantFree(t, p, 0, api.OK)
	wantFree(t, p, 0, api.ErrNone)
	wantLooks(t, p, 7, 2, taken[1])
	wantTake(t, p, 1, 1, 2, api.OK)
	wantLooks(t, p, 6, 3, taken[1], of(2, 1, 1, 3))
}

// P4.1: PutHead and GetHead.

var heads = []api.Head{
	{Kind: 1, Era: 1, Seq: 1},
	{Kind: 2, Era: 1, Seq: 2},
	{Kind: 3, Era: 2, Seq: 1},
	{Kind: 2, Era: 256, Seq: 65536},
	{Kind: 3, Era: 0x04030201, Seq: 0x0c0b0a09080706},
	{Kind: 1, Era: 1<<31 - 1, Seq: 1<<31 - 1},
	{Kind: 2, Era: math.MaxUint32, Seq: math.MaxUint64},
}

func wantPutHead(t *testing.T, size int, h api.Head, want []byte, e api.Errno) {
	t.Helper()
	if b, got := pool.PutHead(size, h); !bytes.Equal(b, want) || got != e {
		t.Errorf("PutHead(%d, %v) = %x, %d, not %x, %d", size, h, b, got, want, e)
	}
}

func wantGetHead(t *testing.T, b []byte, h api.Head, e api.Errno) {
	t.Helper()
	if gotHead, got := pool.GetHead(b); gotHead != h || got != e {
		t.Errorf("GetHead(%x) = %v, %d, not %v, %d", b, gotHead, got, h, e)
	}
}

func TestHeadsAndTheirPages(t *testing.T) {
	for _, size := range []int{128, 129, 131, 200, 255, 256} {
		for _, h := range heads {
			page := sealed(t, size, 1, bodyBytes(h))
			wantPutHead(t, size, h, page, api.OK)
			wantGetHead(t, page, h, api.OK)
		}
	}
}

func TestHeadByHand(t *testing.T) {
	page := ones(128)
	// Its noughts are 7 and 13 of the page's kind and length, 7 of Kind, 31 of
	// Era, 62 of Seq.
	copy(page, []byte{120, 0, 1, 13, 0, 2, 4, 0, 0, 0, 3, 0, 0, 0, 0, 0, 0, 0})
	wantPutHead(t, 128, api.Head{Kind: 2, Era: 4, Seq: 3}, page, api.OK)
}

func TestHeadsThatAreNone(t *testing.T) {
	for _, h := range []api.Head{
		{},
		{Kind: 0, Era: 1, Seq: 1}, {Kind: 4, Era: 1, Seq: 1}, {Kind: 255, Era: 1, Seq: 1},
		{Kind: 1, Era: 0, Seq: 1}, {Kind: 1, Era: 1, Seq: 0}, {Kind: 3, Era: 0, Seq: 0},
	} {
		wantPutHead(t, 128, h, nil, api.ErrArg)
		wantPutHead(t, 127, h, nil, api.ErrArg)
		wantGetHead(t, sealed(t, 128, 1, bodyBytes(h)), api.Head{}, api.ErrForm)
	}
}

func TestHeadsOfSizesThatAreNone(t *testing.T) {
	for _, size := range []int{math.MinInt, -128, -1, 0, 1, 18, 127, 257, 384, math.MaxInt} {
		wantPutHead(t, size, heads[0], nil, api.ErrArg)
	}
	page := sealed(t, 256, 1, bodyBytes(heads[0]))
	for _, b := range [][]byte{nil, {}, page[:1], page[:18], page[:127], append(page, 0xff), append(page, 0)} {
		wantGetHead(t, b, api.Head{}, api.ErrArg)
	}
}

func TestPagesOfOtherKindsAreNoHeads(t *testing.T) {
	for kind := uint8(2); kind <= 7; kind++ {
		for _, h := range heads {
			wantGetHead(t, sealed(t, 128, kind, bodyBytes(h)), api.Head{}, api.ErrForm)
		}
	}
}

func TestBodiesOfOtherLengthsAreNoHeads(t *testing.T) {
	for _, h := range heads {
		body := bodyBytes(h)
		for n := range len(body) {
			wantGetHead(t, sealed(t, 128, 1, body[:n]), api.Head{}, api.ErrForm)
		}
		for _, more := range [][]byte{{0}, {1}, {0xff}, {0, 0}, make([]byte, 110)} {
			wantGetHead(t, sealed(t, 128, 1, append(body[:13:13], more...)), api.Head{}, api.ErrForm)
		}
	}
}

// withNoughts answers b with the number of noughts that it has.
func withNoughts(b []byte) []byte {
	b = bytes.Clone(b)
	n := seal.Noughts(b[2:])
	b[0], b[1] = byte(n), byte(n>>8)
	return b
}

func TestPagesThatAreNoneAreNoHeads(t *testing.T) {
	page := sealed(t, 128, 1, bodyBytes(heads[3]))
	changed := func(at int, x byte) []byte {
		b := bytes.Clone(page)
		b[at] = x
		return b
	}
	wantGetHead(t, ones(128), api.Head{}, api.ErrBlank)
	wantGetHead(t, changed(0, page[0]+1), api.Head{}, api.ErrTorn)
	wantGetHead(t, changed(127, 0x7f), api.Head{}, api.ErrTorn)
	wantGetHead(t, changed(2, 0xff), api.Head{}, api.ErrTorn)
	wantGetHead(t, changed(6, 0xff), api.Head{}, api.ErrTorn)
	wantGetHead(t, make([]byte, 128), api.Head{}, api.ErrTorn)
	wantGetHead(t, withNoughts(changed(2, 0)), api.Head{}, api.ErrForm)
	wantGetHead(t, withNoughts(changed(2, 8)), api.Head{}, api.ErrForm)
	wantGetHead(t, withNoughts(changed(3, 124)), api.Head{}, api.ErrForm)
	wantGetHead(t, withNoughts(changed(127, 0x7f)), api.Head{}, api.ErrForm)
}

// P4.2: Scan, and what a pool tells.

func TestScanOfNoChip(t *testing.T) {
	for _, c := range []*nand.Chip{nil, {}} {
		if p, e := pool.Scan(c); p != nil || e != api.ErrNil {
			t.Errorf("Scan: %v, %d", p, e)
		}
	}
}

func TestScanOfADeadChip(t *testing.T) {
	c := blankChip(t, small)
	kill(t, c)
	if p, e := pool.Scan(c); p != nil || e != api.ErrDead {
		t.Errorf("Scan: %v, %d", p, e)
	}
}

func TestScanOfABlankChip(t *testing.T) {
	for _, g := range []api.Geo{small, odd, large} {
		c := blankChip(t, g)
		p := scanned(t, c)
		wantLooks(t, p, g.Blocks, 0)
		if p.Chip() != c {
			t.Error("Chip: another one")
		}
	}
}

// mixed is a chip of odd with blocks of each kind.
func mixed(t *testing.T) *nand.Chip {
	t.Helper()
	g := odd
	torn := headPage(t, g, api.Head{Kind: 1, Era: 1, Seq: 90})
	torn[3] = 0xff
	return chipOf(t, g, []int{1, 4, 6},
		headed(t, g, 0, 2, 7, 30),
		headed(t, g, 1, 1, 6, 40),               // bad, and the greatest Seq
		put{2, 0, torn},                         // junk
		junk(g, 3, 4),                           // junk in the last page
		junk(g, 4, 0),                           // bad
		headed(t, g, 5, 3, 7, 4), junk(g, 5, 1), // taken, whatever stands behind
		put{7, 1, headPage(t, g, api.Head{Kind: 1, Era: 1, Seq: 91})}, // a head not in the first page: junk
		put{8, 0, sealed(t, g.Size, 2, bodyBytes(heads[0]))},          // a page of another kind: junk
		headed(t, g, 10, 1, 6, 30),                                    // the Seq of the block 0
	)
}

func mixedTaken() []api.Taken {
	return []api.Taken{of(5, 3, 7, 4), of(0, 2, 7, 30), of(10, 1, 6, 30), badOf(1, 1, 6, 40)}
}

func TestScanOfAMixedChip(t *testing.T) {
	// Blank or junk are 2, 3, 7, 8 and 9; 4 and 6 are bad.
	wantLooks(t, scanned(t, mixed(t)), 5, 40, mixedTaken()...)
}

func TestScanWritesNothing(t *testing.T) {
	c := mixed(t)
	strike(t, c, api.Hit{})
	was := c.Bytes()
	p := scanned(t, c)
	looksOf(p)
	p.Chip()
	wantDeeds(t, c, 0)
	wantBytes(t, c, was)
	if e := c.Erase(0); e != api.ErrDead {
		t.Errorf("the hit is gone: %d", e)
	}
}

func TestTakenByRisingSeqThenBlock(t *testing.T) {
	g := large
	var puts []put
	var want []api.Taken
	for i := range g.Blocks {
		// Seqs fall in fours.
		seq := uint64(1 + (g.Blocks-1-i)/4)
		puts = append(puts, headed(t, g, i, 1+uint8(i%3), uint32(1+i), seq))
		want = append(want, of(i, 1+uint8(i%3), uint32(1+i), seq))
	}
	slices.SortFunc(want, func(a, b api.Taken) int {
		if a.Head.Seq != b.Head.Seq {
			return int(a.Head.Seq) - int(b.Head.Seq)
		}
		return a.Block - b.Block
	})
	wantLooks(t, scanned(t, chipOf(t, g, nil, puts...)), 0, 16, want...)
}

func TestEachPageCounts(t *testing.T) {
	// One bit that is 0, wherever in the block, makes it junk.
	for page := range odd.Pages {
		for _, at := range []int{0, 1, 64, odd.Size - 1} {
			b := ones(odd.Size)
			b[at] = 0xfe
			c := chipOf(t, odd, nil, put{3, page, b})
			p := scanned(t, c)
			wantLooks(t, p, odd.Blocks, 0)
			for i := range 3 {
				wantTake(t, p, 1, 1, i, api.OK)
			}
			wantDeeds(t, c, 3)
			wantTake(t, p, 1, 1, 3, api.OK)
			wantDeeds(t, c, 5)
			wantPage(t, c, 3, 0, headPage(t, odd, api.Head{Kind: 1, Era: 1, Seq: 4}))
			for behind := 1; behind < odd.Pages; behind++ {
				wantPage(t, c, 3, behind, ones(odd.Size))
			}
		}
	}
}

func TestLooksOfAChipThatDied(t *testing.T) {
	c := mixed(t)
	p := scanned(t, c)
	ahead := looksOf(p)
	kill(t, c)
	if !looksOf(p).same(ahead) || p.Chip() != c {
		t.Errorf("dead: %v, not %v", looksOf(p), ahead)
	}
}

func TestLooksBehindACutTake(t *testing.T) {
	for _, mask := range [][]byte{nil, {0x0f}, {0xff}} {
		c := mixed(t)
		p := scanned(t, c)
		ahead := looksOf(p)
		strike(t, c, api.Hit{After: 1, Mask: mask})
		wantTake(t, p, 1, 1, 0, api.ErrDead)
		if !looksOf(p).same(ahead) {
			t.Errorf("dead: %v, not %v", looksOf(p), ahead)
		}
		wantTake(t, p, 1, 1, 0, api.ErrDead)
	}
}

func TestLooksBehindACutFree(t *testing.T) {
	for _, mask := range [][]byte{nil, {0x0f}, {0xff}} {
		c := mixed(t)
		p := scanned(t, c)
		ahead := looksOf(p)
		strike(t, c, api.Hit{Mask: mask})
		wantFree(t, p, 5, api.ErrDead)
		if !looksOf(p).same(ahead) {
			t.Errorf("dead: %v, not %v", looksOf(p), ahead)
		}
		wantFree(t, p, 5, api.ErrDead)
	}
}

func TestLooksOfABlockThatGoesBadWhileItIsTaken(t *testing.T) {
	c := blankChip(t, small)
	p := scanned(t, c)
	wantTake(t, p, 1, 1, 0, api.OK)
	strike(t, c, api.Hit{Fails: true})
	if e := c.Program(0, 1, make([]byte, small.Size)); e != api.ErrBad {
		t.Fatalf("Program: %d", e)
	}
	wantLooks(t, p, 7, 1, badOf(0, 1, 1, 1))
	wantFree(t, p, 0, api.ErrNone)
}

// P4.3: Take.

func TestTakeWritesAHead(t *testing.T) {
	for _, g := range []api.Geo{small, odd, large} {
		for _, kind := range []uint8{1, 2, 3} {
			c := blankChip(t, g)
			p := scanned(t, c)
			wantTake(t, p, kind, 0x01020304, 0, api.OK)
			wantDeeds(t, c, 1)
			wantPage(t, c, 0, 0, headPage(t, g, api.Head{Kind: kind, Era: 0x01020304, Seq: 1}))
			for i := 1; i < g.Blocks*g.Pages; i++ {
				wantPage(t, c, i/g.Pages, i%g.Pages, ones(g.Size))
			}
		}
	}
}

func TestTakeAllOfThem(t *testing.T) {
	for _, g := range []api.Geo{small, odd, large} {
		c := blankChip(t, g)
		p := scanned(t, c)
		var taken []api.Taken
		for i := range g.Blocks {
			wantTake(t, p, 2, 9, i, api.OK)
			taken = append(taken, of(i, 2, 9, uint64(i+1)))
			wantLooks(t, p, g.Blocks-i-1, uint64(i+1), taken...)
		}
		was := c.Bytes()
		wantTake(t, p, 2, 9, 0, api.ErrFull)
		wantLooks(t, p, 0, uint64(g.Blocks), taken...)
		wantBytes(t, c, was)
		wantDeeds(t, c, g.Blocks)
	}
}

func TestTakeGoesRoundAndRound(t *testing.T) {
	p := scanned(t, blankChip(t, small))
	for seq := range uint64(50) {
		block := int(seq) % small.Blocks
		wantTake(t, p, 1, 1, block, api.OK)
		wantLooks(t, p, 7, seq+1, of(block, 1, 1, seq+1))
		wantFree(t, p, block, api.OK)
		wantLooks(t, p, 8, seq+1)
	}
}

func TestTakePassesWhatIsTaken(t *testing.T) {
	p := scanned(t, blankChip(t, small))
	for i := range small.Blocks {
		wantTake(t, p, 1, 1, i, api.OK)
	}
	for _, i := range []int{6, 2, 5} {
		wantFree(t, p, i, api.OK)
	}
	for _, i := range []int{2, 5, 6} {
		wantTake(t, p, 1, 1, i, api.OK)
	}
	wantTake(t, p, 1, 1, 0, api.ErrFull)
	for _, i := range []int{6, 2, 7} {
		wantFree(t, p, i, api.OK)
	}
	for _, i := range []int{7, 2, 6} {
		wantTake(t, p, 1, 1, i, api.OK)
	}
}

func TestTheBlockThatWasTakenLastComesLast(t *testing.T) {
	p := scanned(t, blankChip(t, small))
	for i := range small.Blocks {
		wantTake(t, p, 1, 1, i, api.OK)
	}
	wantFree(t, p, 3, api.OK)
	wantTake(t, p, 1, 1, 3, api.OK)
	wantFree(t, p, 3, api.OK)
	wantTake(t, p, 1, 1, 3, api.OK)
	wantFree(t, p, 3, api.OK)
	wantFree(t, p, 2, api.OK)
	wantTake(t, p, 1, 1, 2, api.OK)
	wantTake(t, p, 1, 1, 3, api.OK)
}

func TestBehindScanTakeGoesOnBehindTheGreatestSeq(t *testing.T) {
	g := small
	one, two := headed(t, g, 2, 1, 1, 9), headed(t, g, 5, 2, 3, 8)
	for _, x := range []struct {
		name  string
		bad   []int
		puts  []put
		block int
		seq   uint64
	}{
		{"none", nil, nil, 0, 1},
		{"junk alone", nil, []put{junk(g, 4, 0)}, 0, 1},
		{"one", nil, []put{one}, 3, 10},
		{"two, the greater one ahead", nil, []put{one, two}, 3, 10},
		{"two, the greater one behind", nil, []put{one, headed(t, g, 5, 2, 3, 10)}, 6, 11},
		{"two of one Seq", nil, []put{one, headed(t, g, 5, 2, 3, 9)}, 6, 10},
		{"a bad one", []int{2}, []put{one, two}, 3, 10},
		{"the last block", nil, []put{one, headed(t, g, 7, 1, 1, 12)}, 0, 13},
		{"the next one is taken", nil, []put{one, headed(t, g, 3, 1, 1, 4)}, 4, 10},
		{"the next one is bad", []int{3}, []put{one}, 4, 10},
		{"the next one is junk", nil, []put{one, junk(g, 3, 2)}, 3, 10},
	} {
		c := chipOf(t, g, x.bad, x.puts...)
		p := scanned(t, c)
		wantTake(t, p, 3, 4, x.block, api.OK)
		if p.Last() != x.seq {
			t.Errorf("%s: Last %d, not %d", x.name, p.Last(), x.seq)
		}
		wantPage(t, c, x.block, 0, headPage(t, g, api.Head{Kind: 3, Era: 4, Seq: x.seq}))
	}
}

func TestTakeErasesJunkFirst(t *testing.T) {
	g := small
	c := chipOf(t, g, nil, junk(g, 0, 0), junk(g, 0, 3), junk(g, 1, 2))
	p := scanned(t, c)
	wantTake(t, p, 1, 1, 0, api.OK)
	wantDeeds(t, c, 2)
	wantPage(t, c, 0, 0, headPage(t, g, api.Head{Kind: 1, Era: 1, Seq: 1}))
	wantPage(t, c, 0, 3, ones(g.Size))
	wantPage(t, c, 1, 2, make([]byte, g.Size))
	wantTake(t, p, 1, 1, 1, api.OK)
	wantDeeds(t, c, 4)
	wantPage(t, c, 1, 2, ones(g.Size))
	wantTake(t, p, 1, 1, 2, api.OK)
	wantDeeds(t, c, 5)
	wantLooks(t, p, 5, 3, of(0, 1, 1, 1), of(1, 1, 1, 2), of(2, 1, 1, 3))
}

func TestTakePassesBadBlocks(t *testing.T) {
	c := chipOf(t, small, []int{0, 1, 3, 7})
	p := scanned(t, c)
	for _, i := range []int{2, 4, 5, 6} {
		wantTake(t, p, 1, 1, i, api.OK)
	}
	wantTake(t, p, 1, 1, 0, api.ErrFull)
	wantDeeds(t, c, 4)
}

func TestTakeWhereTheProgramFails(t *testing.T) {
	for _, x := range []struct {
		mask []byte
		left []api.Taken
	}{
		{nil, nil}, {[]byte{0x0f}, nil},
		// The head stands there whole: a bad block has it, too.
		{[]byte{0xff}, []api.Taken{badOf(0, 1, 5, 1)}},
	} {
		c := blankChip(t, small)
		p := scanned(t, c)
		strike(t, c, api.Hit{Fails: true, Mask: x.mask})
		wantTake(t, p, 1, 5, 1, api.OK)
		taken := append(x.left, of(1, 1, 5, 2))
		wantLooks(t, p, 6, 2, taken...)
		wantDeeds(t, c, 2)
		wantFree(t, p, 0, api.ErrNone)
		wantLooks(t, scanned(t, c), 6, 2, taken...)
		wantTake(t, p, 1, 5, 2, api.OK)
	}
}

func TestTakeWhereTheEraseFails(t *testing.T) {
	g := small
	for _, mask := range [][]byte{nil, {0x0f}, {0xff}} {
		c := chipOf(t, g, nil, junk(g, 0, 1))
		p := scanned(t, c)
		strike(t, c, api.Hit{Fails: true, Mask: mask})
		wantTake(t, p, 1, 5, 1, api.OK)
		// No Seq was given to the first one: nothing was to be read of it.
		wantLooks(t, p, 6, 1, of(1, 1, 5, 1))
		wantDeeds(t, c, 2)
	}
}

func TestTakeWhereTheProgramBehindAnEraseFails(t *testing.T) {
	g := small
	c := chipOf(t, g, nil, junk(g, 0, 0))
	p := scanned(t, c)
	strike(t, c, api.Hit{After: 1, Fails: true})
	wantTake(t, p, 1, 5, 1, api.OK)
	wantLooks(t, p, 6, 2, of(1, 1, 5, 2))
	wantDeeds(t, c, 3)
	wantPage(t, c, 0, 0, ones(g.Size))
}

func TestTakeWhereManyFail(t *testing.T) {
	c := blankChip(t, small)
	p := scanned(t, c)
	wantTake(t, p, 1, 1, 0, api.OK)
	fails := api.Hit{Fails: true}
	strike(t, c, fails, fails, fails)
	wantTake(t, p, 2, 1, 4, api.OK)
	wantLooks(t, p, 3, 5, of(0, 1, 1, 1), of(4, 2, 1, 5))
	wantTake(t, p, 2, 1, 5, api.OK)
}

func TestTakeWhereAllFail(t *testing.T) {
	c := blankChip(t, small)
	p := scanned(t, c)
	wantTake(t, p, 1, 1, 0, api.OK)
	strike(t, c, slices.Repeat([]api.Hit{{Fails: true, Mask: []byte{0xff}}}, 20)...)
	wantTake(t, p, 2, 1, 0, api.ErrFull)
	wantDeeds(t, c, 8)
	taken := []api.Taken{of(0, 1, 1, 1)}
	for i := 1; i < 8; i++ {
		taken = append(taken, badOf(i, 2, 1, uint64(i+1)))
	}
	wantLooks(t, p, 0, 8, taken...)
	wantLooks(t, scanned(t, c), 0, 8, taken...)
	wantTake(t, p, 2, 1, 0, api.ErrFull)
	wantDeeds(t, c, 8)
}

func TestTakeIsCutBehindOneThatFailed(t *testing.T) {
	c := blankChip(t, small)
	p := scanned(t, c)
	strike(t, c, api.Hit{Fails: true, Mask: []byte{0xff}}, api.Hit{})
	wantTake(t, p, 1, 1, 0, api.ErrDead)
	wantLooks(t, p, 7, 1, badOf(0, 1, 1, 1))
	wantLooks(t, scanned(t, powered(t, c)), 7, 1, badOf(0, 1, 1, 1))
}

func TestTakeOfKindsAndErasThatAreNone(t *testing.T) {
	c := blankChip(t, small)
	p := scanned(t, c)
	for _, x := range []struct {
		kind uint8
		era  uint32
	}{{0, 1}, {4, 1}, {255, 1}, {1, 0}, {3, 0}, {0, 0}} {
		wantTake(t, p, x.kind, x.era, 0, api.ErrArg)
	}
	wantDeeds(t, c, 0)
	wantLooks(t, p, 8, 0)
	for i, kind := range []uint8{1, 3, 2} {
		wantTake(t, p, kind, uint32(1+i), i, api.OK)
	}
}

func TestTheFirstErrorOfTakeIsAnswered(t *testing.T) {
	var none *pool.Pool
	wantTake(t, none, 0, 0, 0, api.ErrNil)
	wantTake(t, &pool.Pool{}, 0, 0, 0, api.ErrNil)

	c := blankChip(t, small)
	p := scanned(t, c)
	for range small.Blocks - 1 {
		if _, e := p.Take(1, 1); e != api.OK {
			t.Fatal(e)
		}
	}
	kill(t, c)
	wantTake(t, p, 0, 1, 0, api.ErrArg)
	wantTake(t, p, 1, 0, 0, api.ErrArg)
	wantTake(t, p, 1, 1, 0, api.ErrDead)

	c = blankChip(t, small)
	p = scanned(t, c)
	for range small.Blocks {
		if _, e := p.Take(1, 1); e != api.OK {
			t.Fatal(e)
		}
	}
	wantTake(t, p, 4, 1, 0, api.ErrArg)
	wantTake(t, p, 1, 1, 0, api.ErrFull)
	kill(t, c)
	wantTake(t, p, 1, 1, 0, api.ErrDead)
}

func TestNoSeqIsAboveTheGreatest(t *testing.T) {
	// Beyond the bound nothing is promised, but that the call ends.
	g := small
	c := chipOf(t, g, nil, headed(t, g, 0, 1, 1, math.MaxUint64), junk(g, 1, 0))
	p := scanned(t, c)
	wantTake(t, p, 1, 1, 0, api.ErrFull)
	wantDeeds(t, c, 0)
}

// P4.3: Free.

func TestFreeErases(t *testing.T) {
	g := odd
	c := mixed(t)
	p := scanned(t, c)
	wantFree(t, p, 5, api.OK)
	wantDeeds(t, c, 1)
	for page := range g.Pages {
		wantPage(t, c, 5, page, ones(g.Size))
	}
	taken := mixedTaken()
	wantLooks(t, p, 6, 40, taken[1:]...)
	wantLooks(t, scanned(t, c), 6, 40, taken[1:]...)
	wantFree(t, p, 5, api.ErrNone)
	wantDeeds(t, c, 1)
}

func TestFreeOfWhatIsNotTaken(t *testing.T) {
	c := mixed(t)
	p := scanned(t, c)
	ahead := looksOf(p)
	// Blocks that are none, bad with a head, junk, bad, and blank.
	for _, i := range []int{math.MinInt, -1, 11, 64, math.MaxInt, 1, 2, 3, 7, 8, 4, 6, 9} {
		wantFree(t, p, i, api.ErrNone)
	}
	wantDeeds(t, c, 0)
	if !looksOf(p).same(ahead) {
		t.Errorf("%v, not %v", looksOf(p), ahead)
	}
}

func TestFreeWhereTheEraseFails(t *testing.T) {
	for _, x := range []struct {
		mask []byte
		left []api.Taken
	}{
		// The head stands there still.
		{nil, []api.Taken{badOf(0, 1, 1, 1)}},
		{[]byte{0x0f}, nil}, {[]byte{0xff}, nil},
	} {
		c := blankChip(t, small)
		p := scanned(t, c)
		wantTake(t, p, 1, 1, 0, api.OK)
		strike(t, c, api.Hit{Fails: true, Mask: x.mask})
		wantFree(t, p, 0, api.OK)
		wantDeeds(t, c, 2)
		wantLooks(t, p, 7, 1, x.left...)
		wantFree(t, p, 0, api.ErrNone)
		if got := scanned(t, c); !slices.Equal(got.Taken(), x.left) || got.Blanks() != 7 {
			t.Errorf("Scan tells %v", looksOf(got))
		}
		for i := 1; i < 8; i++ {
			wantTake(t, p, 1, 1, i, api.OK)
		}
		wantTake(t, p, 1, 1, 0, api.ErrFull)
	}
}

func TestTheFirstErrorOfFreeIsAnswered(t *testing.T) {
	var none *pool.Pool
	wantFree(t, none, -1, api.ErrNil)
	wantFree(t, &pool.Pool{}, 0, api.ErrNil)
	c := mixed(t)
	p := scanned(t, c)
	kill(t, c)
	for _, i := range []int{-1, 11, 1, 2, 9} {
		wantFree(t, p, i, api.ErrNone)
	}
	wantFree(t, p, 0, api.ErrDead)
}

// P4.4: what follows.

// plainBlock is what a block should be.
type plainBlock struct {
	content int // 0 blank, 1 a head, 2 junk
	head    api.Head
	bad     bool
}

// plain is a pool as it should be, and the hits that its chip has.
type plain struct {
	blocks []plainBlock
	next   int
	last   uint64
	hits   []api.Hit
	dead   bool
}

// deed tells what becomes of a deed: which error it has, and how much of it is
// done: 0 nothing, 1 some, 2 all.
func (p *plain) deed(i int) (int, api.Errno) {
	if len(p.hits) == 0 {
		return 2, api.OK
	}
	if p.hits[0].After > 0 {
		p.hits[0].After--
		return 2, api.OK
	}
	hit := p.hits[0]
	p.hits = p.hits[1:]
	done := 1
	switch {
	case len(hit.Mask) == 0:
		done = 0
	case hit.Mask[0] == 0xff:
		done = 2
	}
	if hit.Fails {
		p.blocks[i].bad = true
		return done, api.ErrBad
	}
	p.dead = true
	return done, api.ErrDead
}

// erase and program answer how the block is then, and the error.
func (p *plain) erase(i int) api.Errno {
	done, e := p.deed(i)
	b := &p.blocks[i]
	if done == 2 {
		b.content = 0
	} else if done == 1 {
		b.content = 2
	}
	return e
}

func (p *plain) program(i int, h api.Head) api.Errno {
	done, e := p.deed(i)
	b := &p.blocks[i]
	if done == 2 {
		b.content, b.head = 1, h
	} else if done == 1 {
		b.content = 2
	}
	return e
}

func (p *plain) take(kind uint8, era uint32) (int, api.Errno) {
	n := len(p.blocks)
	for k := range n {
		i := (p.next + k) % n
		if p.blocks[i].bad || p.blocks[i].content == 1 {
			continue
		}
		e := api.OK
		if p.blocks[i].content == 2 {
			e = p.erase(i)
		}
		if e == api.OK {
			e = p.program(i, api.Head{Kind: kind, Era: era, Seq: p.last + 1})
			p.last++
		}
		if e == api.OK {
			p.next = (i + 1) % n
			return i, api.OK
		}
		if e == api.ErrDead {
			return 0, e
		}
	}
	return 0, api.ErrFull
}

func (p *plain) free(i int) api.Errno {
	if i < 0 || i >= len(p.blocks) || p.blocks[i].bad || p.blocks[i].content != 1 {
		return api.ErrNone
	}
	if e := p.erase(i); e == api.ErrDead {
		return e
	}
	return api.OK
}

func (p *plain) looks() looks {
	l := looks{last: p.last}
	for i, b := range p.blocks {
		if b.content == 1 {
			l.taken = append(l.taken, api.Taken{Block: i, Head: b.head, Bad: b.bad})
		} else if !b.bad {
			l.blanks++
		}
	}
	for range l.taken {
		for i := 1; i < len(l.taken); i++ {
			if l.taken[i].Head.Seq < l.taken[i-1].Head.Seq {
				l.taken[i], l.taken[i-1] = l.taken[i-1], l.taken[i]
			}
		}
	}
	return l
}

// scan makes it what a pool is that was told by what stands on the chip.
func (p *plain) scan() {
	p.dead, p.hits, p.next, p.last = false, nil, 0, 0
	for i, b := range p.blocks {
		if b.content == 1 && b.head.Seq >= p.last {
			p.next, p.last = (i+1)%len(p.blocks), b.head.Seq
		}
	}
}

func someHits(r *rand.Rand, fails bool) []api.Hit {
	var l []api.Hit
	for range r.Intn(4) {
		h := api.Hit{After: r.Intn(12), Fails: fails && r.Intn(3) == 0}
		switch r.Intn(3) {
		case 1:
			h.Mask = []byte{0x55}
		case 2:
			h.Mask = []byte{0xff}
		}
		l = append(l, h)
	}
	return l
}

func TestAsThePlainOne(t *testing.T) {
	for seed := range int64(300) {
		r := rand.New(rand.NewSource(seed))
		g := []api.Geo{small, odd}[seed%2]
		c := blankChip(t, g)
		p, m := scanned(t, c), &plain{blocks: make([]plainBlock, g.Blocks)}
		for step := range 200 {
			what := fmt.Sprintf("seed %d, step %d", seed, step)
			switch n := r.Intn(40); {
			case n == 0:
				l := someHits(r, step < 100)
				strike(t, c, l...)
				m.hits = slices.Clone(l)
			case n < 22:
				kind, era := uint8(1+r.Intn(3)), uint32(1+r.Intn(5))
				i, e := p.Take(kind, era)
				if j, f := m.take(kind, era); i != j || e != f {
					t.Fatalf("%s: Take: %d, %d, not %d, %d", what, i, e, j, f)
				}
			default:
				i := r.Intn(g.Blocks+2) - 1
				if e, f := p.Free(i), m.free(i); e != f {
					t.Fatalf("%s: Free(%d): %d, not %d", what, i, e, f)
				}
			}
			if m.dead {
				c = powered(t, c)
				p = scanned(t, c)
				m.scan()
			}
			if got, want := looksOf(p), m.looks(); !got.same(want) {
				t.Fatalf("%s: %v, not %v", what, got, want)
			}
		}
	}
}

// others answers what is told of all blocks but that one.
func others(l []api.Taken, block int) []api.Taken {
	return slices.DeleteFunc(slices.Clone(l), func(k api.Taken) bool { return k.Block == block })
}

// cutMasks leave nothing, some and all of what is struck.
var cutMasks = [][]byte{nil, {0x01}, {0x80, 0x01, 0x00}, {0x55}, {0xf0, 0x3c, 0xff}, {0xfe}, {0xff}}

func TestWhereverTakeIsCut(t *testing.T) {
	for after := range 2 {
		for _, mask := range cutMasks {
			c := mixed(t)
			p := scanned(t, c)
			strike(t, c, api.Hit{After: after, Mask: mask})
			// The next one is 2, of junk: an erase, and a program.
			wantTake(t, p, 1, 9, 0, api.ErrDead)
			q := scanned(t, powered(t, c))
			if got := others(q.Taken(), 2); !slices.Equal(got, mixedTaken()) {
				t.Fatalf("cut %d, %x: %v, not %v", after, mask, got, mixedTaken())
			}
			for _, k := range q.Taken() {
				if k.Block == 2 && k != of(2, 1, 9, 41) {
					t.Fatalf("cut %d, %x: %v", after, mask, k)
				}
			}
			if q.Last() < 40 {
				t.Fatalf("Last %d", q.Last())
			}
		}
	}
}

func TestWhereverFreeIsCut(t *testing.T) {
	for _, mask := range cutMasks {
		c := mixed(t)
		p := scanned(t, c)
		strike(t, c, api.Hit{Mask: mask})
		wantFree(t, p, 0, api.ErrDead)
		q := scanned(t, powered(t, c))
		if got, want := others(q.Taken(), 0), others(mixedTaken(), 0); !slices.Equal(got, want) {
			t.Fatalf("cut %x: %v, not %v", mask, got, want)
		}
		for _, k := range q.Taken() {
			if k.Block == 0 && k != of(0, 2, 7, 30) {
				t.Fatalf("cut %x: %v", mask, k)
			}
		}
	}
}

func TestWhatIsTakenIsNoOthers(t *testing.T) {
	r := rand.New(rand.NewSource(4))
	p := scanned(t, blankChip(t, odd))
	held := map[int]int{}
	var seq uint64
	for range 500 {
		if i, e := p.Take(1, 1); e == api.OK {
			held[i]++
			if held[i] != 1 {
				t.Fatalf("block %d is another's", i)
			}
			if p.Last() <= seq {
				t.Fatalf("Seq %d behind %d", p.Last(), seq)
			}
			seq = p.Last()
		} else if e != api.ErrFull || len(held) != odd.Blocks {
			t.Fatalf("Take: %d", e)
		}
		if i := r.Intn(odd.Blocks); held[i] > 0 && r.Intn(3) > 0 {
			wantFree(t, p, i, api.OK)
			delete(held, i)
		}
	}
}

func TestSeqsRiseOverCuts(t *testing.T) {
	c := blankChip(t, small)
	var seq uint64
	for n := range 60 {
		p := scanned(t, c)
		for _, k := range p.Taken() {
			if k.Head.Seq > p.Last() {
				t.Fatalf("Last %d, of %v", p.Last(), k)
			}
		}
		if p.Last() < seq {
			t.Fatalf("Last %d behind %d", p.Last(), seq)
		}
		i, e := p.Take(1, 1)
		if e != api.OK {
			t.Fatal(e)
		}
		seq = p.Last()
		if i > 0 || n > 0 {
			for _, k := range p.Taken() {
				if k.Block != i {
					wantFree(t, p, k.Block, api.OK)
				}
			}
		}
		strike(t, c, api.Hit{Mask: []byte{byte(n * 37)}})
		wantTake(t, p, 2, 2, 0, api.ErrDead)
		c = powered(t, c)
	}
}

// Rules 2, 4, 5 and 8.

func TestGetHeadLeavesItsBytes(t *testing.T) {
	room := append(sealed(t, 128, 1, bodyBytes(heads[4])), 1, 2, 3)
	was := bytes.Clone(room)
	wantGetHead(t, room[:128], heads[4], api.OK)
	if !bytes.Equal(room, was) {
		t.Error("the bytes are others")
	}
}

func TestPutHeadIsNewMemory(t *testing.T) {
	a, _ := pool.PutHead(128, heads[0])
	b, _ := pool.PutHead(128, heads[0])
	clear(a[:cap(a)])
	if !bytes.Equal(b, sealed(t, 128, 1, bodyBytes(heads[0]))) {
		t.Error("two pages share memory")
	}
	wantPutHead(t, 128, heads[0], b, api.OK)
}

func TestTakenIsNewMemory(t *testing.T) {
	p := scanned(t, mixed(t))
	a, b := p.Taken(), p.Taken()
	clear(a[:cap(a)])
	if !slices.Equal(b, mixedTaken()) {
		t.Error("two lists share memory")
	}
	wantLooks(t, p, 5, 40, mixedTaken()...)
}

func TestLooksOfNoPool(t *testing.T) {
	for _, p := range []*pool.Pool{nil, {}} {
		wantLooks(t, p, 0, 0)
		if p.Chip() != nil {
			t.Error("Chip of no pool")
		}
	}
}

func TestTwoPoolsAreTheirOwn(t *testing.T) {
	a, b := scanned(t, blankChip(t, small)), scanned(t, blankChip(t, small))
	wantTake(t, a, 1, 1, 0, api.OK)
	wantTake(t, a, 1, 1, 1, api.OK)
	wantLooks(t, b, 8, 0)
	wantTake(t, b, 2, 2, 0, api.OK)
	wantLooks(t, a, 6, 2, of(0, 1, 1, 1), of(1, 1, 1, 2))
}

func TestScanOfWhateverBytes(t *testing.T) {
	r := rand.New(rand.NewSource(9))
	for range 50 {
		b := make([]byte, small.Blocks*small.Pages*small.Size)
		r.Read(b)
		c, e := nand.Load(small, b, []int{r.Intn(8)})
		if e != api.OK {
			t.Fatal(e)
		}
		p := scanned(t, c)
		wantLooks(t, p, 7, 0)
		for range 7 {
			if _, e := p.Take(1, 1); e != api.OK {
				t.Fatal(e)
			}
		}
		wantTake(t, p, 1, 1, 0, api.ErrFull)
	}
}
