package scan_test

import (
	"bytes"
	"fmt"
	"math"
	"slices"
	"testing"

	"carrack/api"
	"carrack/fact"
	"carrack/nand"
	"carrack/pool"
	"carrack/rec"
	"carrack/scan"
	"carrack/seal"
)

// small is the least geometry; odd has numbers that no other one of it has, so
// that what is mixed up is told.
var (
	small = api.Geo{Blocks: 8, Pages: 4, Size: 128}
	odd   = api.Geo{Blocks: 11, Pages: 5, Size: 131, Spares: 3}
	large = api.Geo{Blocks: 64, Pages: 32, Size: 256, Spares: 4}
)

func node(ino int) api.Key {
	return api.Key{Ino: ino, What: api.OfNode}
}

func entry(ino int, name string) api.Key {
	return api.Key{Ino: ino, What: api.OfEntry, Name: name}
}

func piece(ino, chunk int) api.Key {
	return api.Key{Ino: ino, What: api.OfPiece, Chunk: chunk}
}

func set(k api.Key, v ...byte) api.Change {
	return api.Change{Key: k, Value: v}
}

func gone(k api.Key) api.Change {
	return api.Change{Key: k, Gone: true}
}

func is(k api.Key, v ...byte) api.Fact {
	return api.Fact{Key: k, Value: v}
}

// put is what stands in one page of a chip.
type put struct {
	block, page int
	b           []byte
}

// chipOf answers a chip that has these pages, and is blank else.
func chipOf(t *testing.T, g api.Geo, bad []int, puts ...put) *nand.Chip {
	t.Helper()
	all := bytes.Repeat([]byte{0xff}, g.Blocks*g.Pages*g.Size)
	for _, p := range puts {
		copy(all[(p.block*g.Pages+p.page)*g.Size:], p.b)
	}
	c, e := nand.Load(g, all, bad)
	if e != api.OK {
		t.Fatalf("Load: %d", e)
	}
	return c
}

// chip answers a chip of the geometry odd that has these pages.
func chip(t *testing.T, puts ...put) *nand.Chip {
	t.Helper()
	return chipOf(t, odd, nil, puts...)
}

func blankChip(t *testing.T, g api.Geo) *nand.Chip {
	t.Helper()
	return chipOf(t, g, nil)
}

// body is any page of the kind, also one whose body is none of that kind.
func body(block, page int, kind uint8, b ...byte) put {
	p, e := seal.Put(odd.Size, kind, b)
	if e != api.OK {
		panic(fmt.Sprintf("seal.Put of the kind %d, %x: %d", kind, b, e))
	}
	return put{block, page, p}
}

// head is a head of the Kind and Era in the first page of a block.
func head(block int, kind uint8, era uint32, seq uint64) put {
	p, e := pool.PutHead(odd.Size, api.Head{Kind: kind, Era: era, Seq: seq})
	if e != api.OK {
		panic(fmt.Sprintf("PutHead(%d, %d, %d): %d", kind, era, seq, e))
	}
	return put{block, 0, p}
}

// logs is a head of the first format's era 1.
func logs(block int, seq uint64) put {
	return head(block, api.KindLog, 1, seq)
}

// says is a page of changes.
func says(block, page int, l ...api.Change) put {
	p, e := rec.Put(odd.Size, l)
	if e != api.OK {
		panic(fmt.Sprintf("rec.Put(%s): %d", changesText(l), e))
	}
	return put{block, page, p}
}

// drops is a page of a drop.
func drops(block, page int, seq uint64) put {
	p, e := rec.PutDrop(odd.Size, seq)
	if e != api.OK {
		panic(fmt.Sprintf("PutDrop(%d): %d", seq, e))
	}
	return put{block, page, p}
}

// torn is what is left of a page, of which the last bit is missing that a cut
// can leave out.
func torn(p put) put {
	b := bytes.Clone(p.b)
	for i := len(b) - 1; i >= 0; i-- {
		if b[i] != 0xff {
			b[i] |= b[i] + 1
			return put{p.block, p.page, b}
		}
	}
	panic("a blank page")
}

// kill cuts the chip's power without a change of its bytes.
func kill(t *testing.T, c *nand.Chip) {
	t.Helper()
	if e := c.Hits([]api.Hit{{}}); e != api.OK {
		t.Fatalf("Hits: %d", e)
	}
	for i := range c.Geo().Blocks {
		if c.Erase(i) == api.ErrDead {
			return
		}
	}
	t.Fatal("no block can be struck")
}

func changesText(l []api.Change) string {
	s := ""
	for _, c := range l {
		s += fmt.Sprintf("%#v %x %v\n", c.Key, c.Value, c.Gone)
	}
	return s
}

func factsText(l []api.Fact) string {
	s := ""
	for _, f := range l {
		s += fmt.Sprintf("%#v %x\n", f.Key, f.Value)
	}
	return s
}

func pagesText(l []api.Page) string {
	s := ""
	for _, p := range l {
		s += fmt.Sprintf("page %d, drop %d:\n%s", p.Page, p.Drop, changesText(p.Changes))
	}
	return s
}

func list(l ...int) []int { return l }

func wantBlocks(t *testing.T, c *nand.Chip, era uint32, count, dropped []int) {
	t.Helper()
	gotCount, gotDropped, e := scan.Blocks(c, era)
	if !slices.Equal(gotCount, count) || !slices.Equal(gotDropped, dropped) || e != api.OK {
		t.Errorf("Blocks(_, %d) = %v, %v, %d; want %v, %v", era, gotCount, gotDropped, e, count, dropped)
	}
}

func wantFacts(t *testing.T, c *nand.Chip, era uint32, l ...api.Fact) {
	t.Helper()
	if got, e := scan.Facts(c, era); factsText(got) != factsText(l) || e != api.OK {
		t.Errorf("Facts(_, %d) = %s, %d; want %s", era, factsText(got), e, factsText(l))
	}
}

func wantPages(t *testing.T, c *nand.Chip, block int, l ...api.Page) {
	t.Helper()
	if got, e := scan.Pages(c, block); pagesText(got) != pagesText(l) || e != api.OK {
		t.Errorf("Pages(_, %d) = %s, %d; want %s", block, pagesText(got), e, pagesText(l))
	}
}

// wantNone: Blocks and Facts answer the error, and zero values else.
func wantNone(t *testing.T, c *nand.Chip, era uint32, want api.Errno) {
	t.Helper()
	if count, dropped, e := scan.Blocks(c, era); len(count) != 0 || len(dropped) != 0 || e != want {
		t.Errorf("Blocks(_, %d) = %v, %v, %d; want %d", era, count, dropped, e, want)
	}
	if l, e := scan.Facts(c, era); len(l) != 0 || e != want {
		t.Errorf("Facts(_, %d) = %s, %d; want %d", era, factsText(l), e, want)
	}
}

func wantNoPages(t *testing.T, c *nand.Chip, block int, want api.Errno) {
	t.Helper()
	if l, e := scan.Pages(c, block); len(l) != 0 || e != want {
		t.Errorf("Pages(_, %d) = %s, %d; want %d", block, pagesText(l), e, want)
	}
}

// The chapter's examples.

func TestExamples(t *testing.T) {
	c, e := nand.New(small)
	if e != api.OK {
		t.Fatalf("New: %d", e)
	}
	wantFacts(t, c, 1)
	wantNone(t, c, 0, api.ErrArg)
	wantBlocks(t, chip(t, head(3, api.KindLog, 1, 1)), 1, list(3), nil)
}

// P12.1: what is refused, by Blocks and by Facts.

func TestNoChip(t *testing.T) {
	for _, era := range []uint32{0, 1, math.MaxUint32} {
		wantNone(t, nil, era, api.ErrNil)
		wantNone(t, &nand.Chip{}, era, api.ErrNil)
	}
}

func TestDeadChip(t *testing.T) {
	for _, c := range []*nand.Chip{blankChip(t, small), chip(t, logs(3, 5), says(3, 1, set(node(1), 1)))} {
		kill(t, c)
		for _, era := range []uint32{0, 1, 2} {
			wantNone(t, c, era, api.ErrDead)
		}
	}
}

func TestEraOfNone(t *testing.T) {
	wantNone(t, blankChip(t, small), 0, api.ErrArg)
	wantNone(t, chip(t, logs(3, 5), says(3, 1, set(node(1), 1))), 0, api.ErrArg)
}

// P12.1: which blocks are the era's.

func TestNewChipHasNoBlocks(t *testing.T) {
	for _, g := range []api.Geo{small, odd, large} {
		for _, era := range []uint32{1, 2, math.MaxInt32, math.MaxUint32} {
			wantBlocks(t, blankChip(t, g), era, nil, nil)
			wantFacts(t, blankChip(t, g), era)
		}
	}
}

func TestEachBlock(t *testing.T) {
	for i := range odd.Blocks {
		wantBlocks(t, chip(t, logs(i, 9)), 1, list(i), nil)
		wantBlocks(t, chip(t, logs(i, 9), drops(i, 1, 10)), 1, nil, list(i))
	}
}

func TestBlocksOfKindAndEra(t *testing.T) {
	c := chip(t,
		head(0, api.KindLog, 1, 1), head(1, api.KindTree, 1, 2), head(2, api.KindJour, 1, 3),
		head(3, api.KindLog, 2, 4), head(4, api.KindTree, 2, 5), head(5, api.KindLog, 1, 6),
		head(6, api.KindLog, 1<<24+1, 7), head(7, api.KindLog, math.MaxInt32, 8), head(8, api.KindLog, 257, 9))
	wantBlocks(t, c, 1, list(0, 5), nil)
	wantBlocks(t, c, 2, list(3), nil)
	wantBlocks(t, c, 3, nil, nil)
	wantBlocks(t, c, 257, list(8), nil)
	wantBlocks(t, c, 1<<24+1, list(6), nil)
	wantBlocks(t, c, math.MaxInt32, list(7), nil)
}

func TestBadBlocksAreTheErasToo(t *testing.T) {
	puts := []put{logs(2, 3), logs(4, 1), logs(6, 2), drops(6, 1, 2)}
	for _, bad := range [][]int{nil, {2}, {4}, {6}, {2, 4, 6}, {0, 1, 10}} {
		wantBlocks(t, chipOf(t, odd, bad, puts...), 1, list(6, 2), list(4))
	}
	wantBlocks(t, chipOf(t, odd, []int{3, 5}), 1, nil, nil)
}

// A block whose first page is no head's is no era's, whatever stands behind it.
func TestFirstPagesThatAreNoHeads(t *testing.T) {
	rest := []put{says(3, 1, set(node(1), 1)), drops(3, 2, 9), {3, 3, logs(3, 1).b}}
	for _, first := range []put{
		torn(logs(3, 1)), {3, 0, nil}, {3, 0, make([]byte, odd.Size)},
		says(3, 0, set(node(2), 2)), drops(3, 0, 9),
		body(3, 0, api.PageHead), body(3, 0, api.PageHead, 1, 1, 0, 0, 0, 1, 0, 0, 0, 0, 0, 0),
		body(3, 0, api.PageHead, 4, 1, 0, 0, 0, 1, 0, 0, 0, 0, 0, 0, 0), body(3, 0, api.PageHead, 1, 1, 0, 0, 0, 0, 0, 0, 0, 0, 0, 0, 0),
		body(3, 0, api.PageLeaf, 1, 1, 0, 0, 0, 1, 0, 0, 0, 0, 0, 0, 0), body(3, 0, api.PageTurn, 1),
	} {
		c := chip(t, append([]put{first, logs(5, 4), says(5, 1, set(node(3), 3))}, rest...)...)
		wantBlocks(t, c, 1, list(5), nil)
		wantFacts(t, c, 1, is(node(3), 3))
	}
	wantBlocks(t, chip(t, put{3, 1, logs(3, 1).b}), 1, nil, nil)
}

func TestBlocksByRisingSeq(t *testing.T) {
	wantBlocks(t, chip(t, logs(0, 3), logs(1, 1), logs(2, 4), logs(3, 2)), 1, list(1, 3, 0, 2), nil)
	wantBlocks(t, chip(t, logs(10, 1), logs(0, 2), logs(7, 3), logs(3, 4)), 1, list(10, 0, 7, 3), nil)
	// Numbers, not bytes: 256 is behind 2, and the eighth byte counts, too.
	wantBlocks(t, chip(t, logs(1, 256), logs(2, 2), logs(3, 65536), logs(4, 255)), 1, list(2, 4, 1, 3), nil)
	wantBlocks(t, chip(t, logs(1, math.MaxUint64), logs(2, 1<<63), logs(3, 1<<56), logs(4, math.MaxInt64)), 1, list(3, 4, 2, 1), nil)
}

func TestDroppedByRisingSeq(t *testing.T) {
	c := chip(t, logs(0, 3), logs(1, 9), logs(2, 4), logs(3, 2), logs(4, 5), logs(5, 7), drops(0, 1, 5))
	wantBlocks(t, c, 1, list(4, 5, 1), list(3, 0, 2))
}

func TestBlocksOfOneSeq(t *testing.T) {
	wantBlocks(t, chip(t, logs(6, 5), logs(2, 5), logs(4, 5)), 1, list(2, 4, 6), nil)
	wantBlocks(t, chip(t, logs(6, 5), logs(2, 5), logs(4, 4), logs(0, 6)), 1, list(4, 2, 6, 0), nil)
	wantBlocks(t, chip(t, logs(6, 5), logs(2, 5), drops(6, 1, 5), logs(1, 4), logs(0, 4)), 1, list(2, 6), list(0, 1))
	wantBlocks(t, chip(t, logs(6, 5), logs(2, 5), drops(6, 1, 6)), 1, nil, list(2, 6))
}

// P12.1: a drop ends all lesser Seqs.

// three are the blocks 4, 1 and 8, of the Seqs 10, 20 and 30.
func three(more ...put) []put {
	return append([]put{logs(4, 10), logs(1, 20), logs(8, 30)}, more...)
}

func TestDropOfASeq(t *testing.T) {
	for _, x := range []struct {
		seq            uint64
		count, dropped []int
	}{
		{1, list(4, 1, 8), nil}, {9, list(4, 1, 8), nil}, {10, list(4, 1, 8), nil},
		{11, list(1, 8), list(4)}, {19, list(1, 8), list(4)}, {20, list(1, 8), list(4)},
		{21, list(8), list(4, 1)}, {30, list(8), list(4, 1)},
		{31, nil, list(4, 1, 8)}, {256, nil, list(4, 1, 8)}, {math.MaxInt32, nil, list(4, 1, 8)}, {math.MaxUint64, nil, list(4, 1, 8)},
	} {
		// In whichever of the blocks it stands, and whichever page of it.
		for _, block := range []int{4, 1, 8} {
			for page := 1; page < odd.Pages; page++ {
				wantBlocks(t, chip(t, three(drops(block, page, x.seq))...), 1, x.count, x.dropped)
				wantBlocks(t, chipOf(t, odd, list(block), three(drops(block, page, x.seq))...), 1, x.count, x.dropped)
			}
		}
	}
}

// The greatest of them says what counts, wherever it stands.
func TestTwoDrops(t *testing.T) {
	for _, a := range []int{4, 1, 8} {
		for _, b := range []int{4, 1, 8} {
			wantBlocks(t, chip(t, three(drops(a, 1, 15), drops(b, 2, 25))...), 1, list(8), list(4, 1))
			wantBlocks(t, chip(t, three(drops(a, 3, 25), drops(b, 4, 15))...), 1, list(8), list(4, 1))
			wantBlocks(t, chip(t, three(drops(a, 1, 20), drops(b, 3, 20))...), 1, list(1, 8), list(4))
		}
	}
}

// A drop is of no other era's blocks than those in which it stands.
func TestDropInAnotherBlock(t *testing.T) {
	for _, other := range []put{
		head(6, api.KindLog, 2, 40), head(6, api.KindTree, 1, 40), head(6, api.KindJour, 1, 40),
		torn(logs(6, 40)), {6, 0, nil}, says(6, 0, set(node(1), 1)),
	} {
		c := chip(t, three(other, drops(6, 1, 25), says(8, 1, set(node(1), 1)), says(4, 1, set(node(2), 2)))...)
		wantBlocks(t, c, 1, list(4, 1, 8), nil)
		wantFacts(t, c, 1, is(node(1), 1), is(node(2), 2))
	}
	c := chip(t, three(head(6, api.KindLog, 2, 40), drops(6, 1, 50))...)
	wantBlocks(t, c, 2, nil, list(6))
}

func TestPagesThatAreNoDrops(t *testing.T) {
	for _, p := range []put{
		torn(drops(1, 1, 25)),
		body(1, 1, api.PageDrop), body(1, 1, api.PageDrop, 25), body(1, 1, api.PageDrop, 25, 0, 0, 0, 0, 0, 0),
		body(1, 1, api.PageDrop, 25, 0, 0, 0, 0, 0, 0, 0, 0), body(1, 1, api.PageDrop, 0, 0, 0, 0, 0, 0, 0, 0),
		body(1, 1, api.PageHead, 25, 0, 0, 0, 0, 0, 0, 0), body(1, 1, api.PageChanges, 25, 0, 0, 0, 0, 0, 0, 0),
		body(1, 1, api.PageLeaf, 25, 0, 0, 0, 0, 0, 0, 0), body(1, 1, api.PageInner, 25, 0, 0, 0, 0, 0, 0, 0),
		body(1, 1, api.PagePoint, 25, 0, 0, 0, 0, 0, 0, 0), body(1, 1, api.PageTurn, 25, 0, 0, 0, 0, 0, 0, 0),
	} {
		wantBlocks(t, chip(t, three(p)...), 1, list(4, 1, 8), nil)
		// What stands behind it is read all the same.
		wantBlocks(t, chip(t, three(p, drops(1, 2, 15))...), 1, list(1, 8), list(4))
	}
}

// P12.1: Facts.

func TestFactsOfNone(t *testing.T) {
	wantFacts(t, chip(t, logs(3, 1)), 1)
	wantFacts(t, chip(t, logs(3, 1), drops(3, 1, 1)), 1)
	wantFacts(t, chip(t, logs(3, 1), says(3, 1, gone(node(1)))), 1)
	wantFacts(t, chip(t, logs(3, 1), says(3, 1, set(node(1), 1))), 2)
}

func TestFactsOfOnePage(t *testing.T) {
	one := func(l ...api.Change) *nand.Chip { return chip(t, logs(3, 1), says(3, 1, l...)) }
	wantFacts(t, one(set(node(1), 1, 2, 3, 4)), 1, is(node(1), 1, 2, 3, 4))
	wantFacts(t, one(set(piece(2, 1), 7), set(node(2), 5), set(entry(1, "b"), 2, 0), set(piece(2, 0), 6), set(entry(1, "a"), 3, 0), set(node(1), 4)), 1,
		is(node(1), 4), is(entry(1, "a"), 3, 0), is(entry(1, "b"), 2, 0), is(node(2), 5), is(piece(2, 0), 6), is(piece(2, 1), 7))
	wantFacts(t, one(set(node(1), 1), set(node(1), 2), set(node(1), 3)), 1, is(node(1), 3))
	wantFacts(t, one(set(node(1), 1), gone(node(1))), 1)
	wantFacts(t, one(gone(node(1)), set(node(1), 1)), 1, is(node(1), 1))
	wantFacts(t, one(set(node(1), 1), gone(node(1)), set(node(1), 2), gone(node(2))), 1, is(node(1), 2))
}

// A key is changed twice, gone and made again, in pages of one block.
func TestFactsPageByPage(t *testing.T) {
	c := chip(t, logs(3, 1),
		says(3, 1, set(node(1), 1), set(node(2), 1), set(node(3), 1), set(node(4), 1)),
		says(3, 2, set(node(1), 2), gone(node(2)), gone(node(3))),
		says(3, 4, set(node(3), 4), set(node(1), 4)))
	wantFacts(t, c, 1, is(node(1), 4), is(node(3), 4), is(node(4), 1))
}

// Blocks are gone through by their Seqs, not as they stand on the chip.
func TestFactsBlockByBlock(t *testing.T) {
	c := chip(t, three(
		says(4, 1, set(node(1), 1), set(node(2), 1), set(node(3), 1)), says(4, 4, set(node(9), 1)),
		says(1, 1, set(node(1), 2), gone(node(2)), gone(node(3))), says(1, 2, gone(node(9)), set(node(8), 2)),
		says(8, 1, set(node(1), 3), set(node(3), 3)))...)
	wantFacts(t, c, 1, is(node(1), 3), is(node(3), 3), is(node(8), 2))
	tie := chip(t, logs(6, 5), logs(2, 5), says(6, 1, set(node(1), 6)), says(2, 1, set(node(1), 2), set(node(2), 2)))
	wantFacts(t, tie, 1, is(node(1), 6), is(node(2), 2))
}

func TestFactsOfBlocksThatCount(t *testing.T) {
	puts := three(
		says(4, 1, set(node(1), 1), set(node(2), 1)), says(4, 2, gone(node(3))),
		says(1, 1, set(node(1), 2), set(node(3), 2)),
		says(8, 1, set(node(4), 3)), says(8, 3, gone(node(1))))
	all := []api.Fact{is(node(2), 1), is(node(3), 2), is(node(4), 3)}
	wantFacts(t, chip(t, puts...), 1, all...)
	wantFacts(t, chip(t, append(puts, drops(8, 2, 10))...), 1, all...)
	wantFacts(t, chip(t, append(puts, drops(8, 2, 11))...), 1, is(node(3), 2), is(node(4), 3))
	wantFacts(t, chip(t, append(puts, drops(4, 3, 20))...), 1, is(node(3), 2), is(node(4), 3))
	wantFacts(t, chip(t, append(puts, drops(1, 2, 30))...), 1, is(node(4), 3))
	wantFacts(t, chip(t, append(puts, drops(1, 2, 31))...), 1)
	// What stands in a block ahead of a drop of its own Seq counts, too.
	wantFacts(t, chip(t, append(puts, drops(1, 2, 20))...), 1, is(node(3), 2), is(node(4), 3))
}

func TestFactsOfEachEra(t *testing.T) {
	c := chip(t, logs(0, 1), says(0, 1, set(node(1), 1)), head(1, api.KindLog, 2, 2), says(1, 1, set(node(2), 2)),
		head(2, api.KindTree, 1, 3), says(2, 1, set(node(3), 3)), head(3, api.KindJour, 2, 4), says(3, 1, set(node(4), 4)))
	wantFacts(t, c, 1, is(node(1), 1))
	wantFacts(t, c, 2, is(node(2), 2))
	wantFacts(t, c, 3)
}

// noChanges are pages of the block 3 that say no changes, but for those of drops.
func noChanges(page int) []put {
	l := []put{
		{3, page, nil}, {3, page, make([]byte, odd.Size)}, {3, page, logs(3, 1).b},
		torn(says(3, page, set(node(5), 5))), torn(drops(3, page, 100)),
		body(3, page, api.PageChanges), body(3, page, api.PageChanges, 0), body(3, page, api.PageChanges, 1),
		body(3, page, api.PageChanges, 2, 1, 5, 0, 1, 1, 5), body(3, page, api.PageChanges, 1, 1, 5, 0, 1, 1, 5, 0),
		body(3, page, api.PageChanges, 1, 2, 5, 0, 1, 1, 5), body(3, page, api.PageChanges, 1, 1, 5, 0, 1, 0),
		body(3, page, api.PageDrop), body(3, page, api.PageDrop, 0, 0, 0, 0, 0, 0, 0, 0),
	}
	for _, kind := range []uint8{api.PageHead, api.PageDrop, api.PageLeaf, api.PageInner, api.PagePoint, api.PageTurn} {
		l = append(l, body(3, page, kind, 1, 1, 5, 0, 1, 1, 5))
	}
	return l
}

// What says nothing between two pages that say something takes nothing of them.
func TestPagesThatSayNothing(t *testing.T) {
	for _, p := range noChanges(2) {
		c := chip(t, logs(3, 7), says(3, 1, set(node(1), 1), set(node(2), 1)), p, says(3, 3, set(node(2), 3), set(node(3), 3)))
		wantFacts(t, c, 1, is(node(1), 1), is(node(2), 3), is(node(3), 3))
		wantBlocks(t, c, 1, list(3), nil)
	}
	for _, page := range []int{1, 3, 4} {
		for _, p := range noChanges(page) {
			wantFacts(t, chip(t, logs(3, 7), says(3, 2, set(node(1), 1)), p), 1, is(node(1), 1))
		}
	}
}

func TestFactsOfBadBlocks(t *testing.T) {
	puts := three(says(4, 1, set(node(1), 1), set(node(2), 1)), says(1, 1, set(node(1), 2)), says(8, 1, set(node(3), 3)))
	for _, bad := range [][]int{{4}, {1}, {8}, {1, 4, 8}, {0, 2}} {
		wantFacts(t, chipOf(t, odd, bad, puts...), 1, is(node(1), 2), is(node(2), 1), is(node(3), 3))
	}
	wantFacts(t, chipOf(t, odd, list(8), append(puts, drops(8, 2, 30))...), 1, is(node(3), 3))
}

// P12.2.

func TestPagesOfNoChip(t *testing.T) {
	dead := chip(t, logs(3, 1), says(3, 1, set(node(1), 1)))
	kill(t, dead)
	for _, block := range []int{-1, 0, 3, 11, math.MaxInt, math.MinInt} {
		wantNoPages(t, nil, block, api.ErrNil)
		wantNoPages(t, &nand.Chip{}, block, api.ErrNil)
		wantNoPages(t, dead, block, api.ErrDead)
	}
}

func TestPagesOfNoBlock(t *testing.T) {
	for _, g := range []api.Geo{small, odd, large} {
		for _, block := range []int{-1, -2, g.Blocks, g.Blocks + 1, 1 << 32, math.MaxInt, math.MinInt} {
			wantNoPages(t, blankChip(t, g), block, api.ErrArg)
		}
		for _, block := range []int{0, 1, g.Blocks - 1} {
			wantPages(t, blankChip(t, g), block)
		}
	}
}

func TestPagesOfTheLastBlock(t *testing.T) {
	c := chip(t, says(10, 4, set(node(1), 1)), says(0, 1, set(node(2), 2)))
	wantPages(t, c, 10, api.Page{Page: 4, Changes: []api.Change{set(node(1), 1)}})
	wantPages(t, c, 0, api.Page{Page: 1, Changes: []api.Change{set(node(2), 2)}})
}

func TestPagesInOrder(t *testing.T) {
	l := []api.Change{set(node(2), 9), gone(node(1)), set(node(2), 8), set(entry(1, "a"), 2, 0), gone(piece(7, 7))}
	rest := []put{says(3, 1, l...), drops(3, 2, 77), says(3, 3, gone(node(5))), drops(3, 4, math.MaxUint64)}
	want := []api.Page{
		{Page: 1, Changes: l}, {Page: 2, Drop: 77}, {Page: 3, Changes: []api.Change{gone(node(5))}}, {Page: 4, Drop: math.MaxUint64},
	}
	// Whatever stands first, the block's head or not: it is not told.
	for _, first := range []put{
		logs(3, 1), {3, 0, nil}, torn(logs(3, 1)), head(3, api.KindTree, 9, 9), says(3, 0, set(node(9), 9)), drops(3, 0, 9),
	} {
		wantPages(t, chip(t, append(rest, first)...), 3, want...)
		wantPages(t, chipOf(t, odd, list(3), append(rest, first)...), 3, want...)
		wantPages(t, chip(t, append(rest, first)...), 2)
		wantPages(t, chip(t, append(rest, first)...), 4)
	}
}

// It is all the same whether a block counts.
func TestPagesOfDroppedBlocks(t *testing.T) {
	c := chip(t, three(says(4, 1, set(node(1), 1)), drops(8, 1, 31))...)
	wantPages(t, c, 4, api.Page{Page: 1, Changes: []api.Change{set(node(1), 1)}})
	wantPages(t, c, 8, api.Page{Page: 1, Drop: 31})
	wantPages(t, c, 1)
}

func TestPagesThatAreNone(t *testing.T) {
	for page := 1; page < odd.Pages; page++ {
		for _, p := range noChanges(page) {
			wantPages(t, chip(t, logs(3, 1), p), 3)
			other := 1 + page%4
			wantPages(t, chip(t, logs(3, 1), p, drops(3, other, 5)), 3, api.Page{Page: other, Drop: 5})
		}
	}
}

func TestPagesOfALargeChip(t *testing.T) {
	c := blankChip(t, large)
	var want []api.Page
	for page := 1; page < large.Pages; page++ {
		l := []api.Change{set(node(page), byte(page))}
		b, e := rec.Put(large.Size, l)
		if e != api.OK || c.Program(63, page, b) != api.OK {
			t.Fatalf("page %d: %d", page, e)
		}
		want = append(want, api.Page{Page: page, Changes: l})
	}
	wantPages(t, c, 63, want...)
}

// P12.3.

// program programs a page behind all others, which is cut, if there is a hit.
func program(t *testing.T, c *nand.Chip, p put, hits ...api.Hit) *nand.Chip {
	t.Helper()
	c.Hits(hits)
	c.Program(p.block, p.page, p.b)
	next, e := c.Power()
	if e != api.OK {
		t.Fatalf("Power: %d", e)
	}
	return next
}

func TestWhatIsProgrammedBehindAllElse(t *testing.T) {
	puts := three(says(4, 1, set(node(1), 1), set(node(2), 1)), says(1, 4, set(node(1), 2)), says(8, 1, set(node(3), 3)), drops(8, 2, 15))
	all := [][]api.Change{
		{set(node(4), 4)}, {gone(node(3))}, {set(node(1), 9), gone(node(1)), set(node(3), 9)}, {gone(node(77))},
		{set(entry(1, "a"), 2, 0), set(piece(2, 7), 1, 2, 3), gone(node(1)), set(node(1), 5)},
	}
	ahead, _ := scan.Facts(chip(t, puts...), 1)
	for _, l := range all {
		for page := 3; page < odd.Pages; page++ {
			c := program(t, chip(t, puts...), says(8, page, l...))
			wantFacts(t, c, 1, fact.Apply(ahead, l)...)
			wantBlocks(t, c, 1, list(1, 8), list(4))
		}
	}
}

// One bit is enough to be torn, or to be missing.
func TestTornPagesAddNothing(t *testing.T) {
	puts := []put{logs(2, 1), says(2, 1, set(node(1), 1), set(node(2), 1))}
	l := []api.Change{set(node(1), 2), gone(node(2)), set(node(3), 3)}
	for _, page := range []put{says(2, 2, l...), drops(2, 2, 2)} {
		for _, mask := range [][]byte{nil, {0}, {1}, {0x0f}, {0xfe}, {0, 0xff}, {0xff, 0xff, 0}, {0x7f, 0xff, 0xff, 0xff}} {
			c := program(t, chip(t, puts...), page, api.Hit{Mask: mask})
			wantFacts(t, c, 1, is(node(1), 1), is(node(2), 1))
			wantBlocks(t, c, 1, list(2), nil)
			wantPages(t, c, 2, api.Page{Page: 1, Changes: []api.Change{set(node(1), 1), set(node(2), 1)}})
			// What is programmed behind it adds its changes.
			c = program(t, c, says(2, 3, l...))
			wantFacts(t, c, 1, is(node(1), 2), is(node(3), 3))
		}
	}
}

// A cut that leaves all bits leaves the page.
func TestCutBehindTheLastBit(t *testing.T) {
	puts := []put{logs(2, 1), says(2, 1, set(node(1), 1))}
	all := api.Hit{Mask: []byte{0xff}}
	c := program(t, chip(t, puts...), says(2, 2, set(node(3), 3)), all)
	wantFacts(t, c, 1, is(node(1), 1), is(node(3), 3))
	c = program(t, chip(t, puts...), drops(2, 2, 2), all)
	wantBlocks(t, c, 1, nil, list(2))
	wantFacts(t, c, 1)
}

// Each cut of a page, bit by bit: the facts are those ahead, or those behind.
func TestEachBitOfAPage(t *testing.T) {
	puts := []put{logs(2, 1), says(2, 1, set(node(1), 1))}
	whole := says(2, 2, set(node(1), 2), gone(node(2)))
	zeros := 0
	for i := range odd.Size * 8 {
		b := bytes.Clone(whole.b)
		if b[i/8]>>(i%8)&1 == 1 {
			continue
		}
		zeros++
		b[i/8] |= 1 << (i % 8)
		wantFacts(t, chip(t, append(puts, put{2, 2, b})...), 1, is(node(1), 1))
	}
	if zeros == 0 {
		t.Error("no bit was tried")
	}
	wantFacts(t, chip(t, append(puts, whole)...), 1, is(node(1), 2))
}
