package log_test

import (
	"bytes"
	"fmt"
	"math"
	"runtime/debug"
	"slices"
	"testing"

	"carrack/api"
	"carrack/fact"
	"carrack/log"
	"carrack/nand"
	"carrack/pack"
	"carrack/pool"
	"carrack/rec"
	"carrack/room"
	"carrack/scan"
	"carrack/seal"
)

// The tests make chip upon chip, and let go of them: it takes half the time not to
// collect each of them at once.
func TestMain(m *testing.M) {
	debug.SetGCPercent(400)
	m.Run()
}

// small is the least geometry; odd has numbers that no other one of it has, so
// that what is mixed up is told; of middle and wide Want leaves many blocks.
var (
	small  = api.Geo{Blocks: 8, Pages: 4, Size: 128}
	odd    = api.Geo{Blocks: 11, Pages: 5, Size: 131, Spares: 3}
	middle = api.Geo{Blocks: 16, Pages: 8, Size: 128, Spares: 2}
	wide   = api.Geo{Blocks: 30, Pages: 4, Size: 128}
	large  = api.Geo{Blocks: 64, Pages: 32, Size: 256, Spares: 4}
)

func node(ino int) api.Key {
	return api.Key{Ino: ino, What: api.OfNode}
}

func entry(ino int, name string) api.Key {
	return api.Key{Ino: ino, What: api.OfEntry, Name: name}
}

func piece(ino, chunk int) api.Key {
	return api.Key{Ino: ino, What: api.OfPiece, Chunk: chunk}
}

func set(k api.Key, v ...byte) api.Change {
	return api.Change{Key: k, Value: v}
}

func gone(k api.Key) api.Change {
	return api.Change{Key: k, Gone: true}
}

func is(k api.Key, v ...byte) api.Fact {
	return api.Fact{Key: k, Value: v}
}

func changes(l ...api.Change) []api.Change { return l }

func facts(l ...api.Fact) []api.Fact { return l }

// long is a value of which a page of the least size has just one.
func long(v byte) []byte {
	return bytes.Repeat([]byte{v}, 100)
}

func factsText(l []api.Fact) string {
	s := ""
	for _, f := range l {
		s += fmt.Sprintf("%v=%x\n", f.Key, f.Value)
	}
	return s
}

func same(a, b []api.Fact) bool {
	return factsText(a) == factsText(b)
}

func blankChip(t *testing.T, g api.Geo) *nand.Chip {
	t.Helper()
	c, e := nand.New(g)
	if e != api.OK {
		t.Fatalf("New: %d", e)
	}
	return c
}

// kill cuts the chip's power without a change of its bytes.
func kill(t *testing.T, c *nand.Chip) {
	t.Helper()
	hit(t, c, api.Hit{})
	for i := range c.Geo().Blocks {
		if c.Erase(i) == api.ErrDead {
			return
		}
	}
	t.Fatal("no block can be struck")
}

func hit(t *testing.T, c *nand.Chip, l ...api.Hit) {
	t.Helper()
	if e := c.Hits(l); e != api.OK {
		t.Fatalf("Hits: %d", e)
	}
}

func power(t *testing.T, c *nand.Chip) *nand.Chip {
	t.Helper()
	next, e := c.Power()
	if e != api.OK {
		t.Fatalf("Power: %d", e)
	}
	return next
}

func makeOn(t *testing.T, c *nand.Chip, era uint32) *log.Log {
	t.Helper()
	l, e := log.Make(c, era)
	if e != api.OK {
		t.Fatalf("Make(_, %d): %d", era, e)
	}
	return l
}

func open(t *testing.T, c *nand.Chip, era uint32) *log.Log {
	t.Helper()
	l, e := log.Open(c, era)
	if e != api.OK {
		t.Fatalf("Open(_, %d): %d", era, e)
	}
	return l
}

// made answers a log of the era 1 on a new chip.
func made(t *testing.T, g api.Geo) *log.Log {
	t.Helper()
	return makeOn(t, blankChip(t, g), 1)
}

func put(t *testing.T, l *log.Log, c ...api.Change) {
	t.Helper()
	if e := l.Put(c); e != api.OK {
		t.Fatalf("Put(%v): %d, of\n%s", c, e, told(l.Chip(), 1))
	}
}

// puts puts a changing value of the node 1 n times.
func puts(t *testing.T, l *log.Log, n int) {
	t.Helper()
	for i := range n {
		put(t, l, set(node(1), byte(i), 1))
	}
}

// takeAll takes blocks of another Kind until so many are left that can be taken.
func takeAll(t *testing.T, c *nand.Chip, left int) {
	t.Helper()
	p, e := pool.Scan(c)
	if e != api.OK {
		t.Fatalf("Scan: %d", e)
	}
	for p.Blanks() > left {
		if _, e := p.Take(api.KindTree, 7); e != api.OK {
			t.Fatalf("Take: %d", e)
		}
	}
}

// taken answers the blocks of the first format's era, bad ones, too.
func taken(t *testing.T, c *nand.Chip, era uint32) []api.Taken {
	t.Helper()
	p, e := pool.Scan(c)
	if e != api.OK {
		t.Fatalf("Scan: %d", e)
	}
	return slices.DeleteFunc(p.Taken(), func(x api.Taken) bool {
		return x.Head.Kind != api.KindLog || x.Head.Era != era
	})
}

// told answers what stands in the blocks of the era.
func told(c *nand.Chip, era uint32) string {
	c, e := c.Power()
	if e != api.OK {
		return "no chip"
	}
	p, _ := pool.Scan(c)
	s := fmt.Sprintln(p.Blanks(), "blocks can be taken")
	for _, x := range p.Taken() {
		s += fmt.Sprintf("block %d, kind %d, era %d, seq %d, bad %v:", x.Block, x.Head.Kind, x.Head.Era, x.Head.Seq, x.Bad)
		pages, _ := scan.Pages(c, x.Block)
		for _, q := range pages {
			s += fmt.Sprintf(" %d: %d changes, drop %d;", q.Page, len(q.Changes), q.Drop)
		}
		s += "\n"
	}
	return s
}

// wantFacts: the log has the facts, scan tells them, and so does a log that is
// opened when the power is back.
func wantFacts(t *testing.T, l *log.Log, want []api.Fact) {
	t.Helper()
	if got := l.Facts(); !same(got, want) {
		t.Fatalf("Facts() = %s; want %s", factsText(got), factsText(want))
	}
	c := power(t, l.Chip())
	if got, e := scan.Facts(c, 1); !same(got, want) || e != api.OK {
		t.Fatalf("scan.Facts = %s, %d; want %s, of\n%s", factsText(got), e, factsText(want), told(c, 1))
	}
	if got := open(t, c, 1).Facts(); !same(got, want) {
		t.Fatalf("opened: Facts() = %s; want %s, of\n%s", factsText(got), factsText(want), told(c, 1))
	}
}

// wantNothingDone: no deed is asked of the chip, and none of its bytes changes.
func wantNothingDone(t *testing.T, c *nand.Chip, do func()) {
	t.Helper()
	deeds, was := c.Deeds(), c.Bytes()
	do()
	if c.Deeds() != deeds || !bytes.Equal(c.Bytes(), was) {
		t.Errorf("%d deeds were done", c.Deeds()-deeds)
	}
}

// The chapter's examples.

func TestExamples(t *testing.T) {
	for _, g := range []api.Geo{small, odd, middle, wide, large} {
		c := blankChip(t, g)
		l := makeOn(t, c, 1)
		put(t, l, set(node(1), 5))
		if !same(l.Facts(), facts(is(node(1), 5))) {
			t.Errorf("Facts() = %s", factsText(l.Facts()))
		}
		next := power(t, c)
		if l := open(t, next, 1); !same(l.Facts(), facts(is(node(1), 5))) {
			t.Errorf("opened: Facts() = %s", factsText(l.Facts()))
		}
		wantNoLog(t, next, 2, log.Open, api.ErrCorrupt)
	}
}

// P14.1.

// wantNoLog: what makes or opens a log answers the error, and no log.
func wantNoLog(t *testing.T, c *nand.Chip, era uint32, make func(*nand.Chip, uint32) (*log.Log, api.Errno), want api.Errno) {
	t.Helper()
	l, e := make(c, era)
	if l != nil || e != want {
		t.Errorf("a log of the era %d: %v, %d; want %d", era, l != nil, e, want)
	}
}

func TestMakeAndOpenOfNoChip(t *testing.T) {
	dead := blankChip(t, small)
	kill(t, dead)
	used := made(t, small).Chip()
	kill(t, used)
	for _, era := range []uint32{0, 1, 2, math.MaxInt32} {
		for _, make := range []func(*nand.Chip, uint32) (*log.Log, api.Errno){log.Make, log.Open} {
			wantNoLog(t, nil, era, make, api.ErrNil)
			wantNoLog(t, &nand.Chip{}, era, make, api.ErrNil)
			wantNoLog(t, dead, era, make, api.ErrDead)
			wantNoLog(t, used, era, make, api.ErrDead)
		}
	}
}

func TestEraOfNone(t *testing.T) {
	for _, c := range []*nand.Chip{blankChip(t, small), made(t, small).Chip()} {
		wantNothingDone(t, c, func() {
			wantNoLog(t, c, 0, log.Make, api.ErrArg)
			wantNoLog(t, c, 0, log.Open, api.ErrArg)
		})
	}
	// The era is asked ahead of the room.
	c := blankChip(t, small)
	takeAll(t, c, 0)
	wantNoLog(t, c, 0, log.Make, api.ErrArg)
}

func TestMakeWhereThereIsOne(t *testing.T) {
	c := made(t, small).Chip()
	wantNothingDone(t, c, func() { wantNoLog(t, c, 1, log.Make, api.ErrArg) })
	// A block whose head alone stands is one, too; it is asked ahead of the room.
	c = blankChip(t, small)
	p, _ := pool.Scan(c)
	p.Take(api.KindLog, 3)
	wantNothingDone(t, c, func() { wantNoLog(t, c, 3, log.Make, api.ErrArg) })
	takeAll(t, c, 0)
	wantNoLog(t, c, 3, log.Make, api.ErrArg)
	wantNoLog(t, c, 4, log.Make, api.ErrFull)
}

func TestMakeBesideOthers(t *testing.T) {
	c := makeOn(t, blankChip(t, small), 2).Chip()
	p, _ := pool.Scan(c)
	p.Take(api.KindTree, 1)
	p.Take(api.KindJour, 1)
	l := makeOn(t, c, 1)
	put(t, l, set(node(1), 5))
	wantFacts(t, l, facts(is(node(1), 5)))
	if other := open(t, power(t, c), 2); len(other.Facts()) != 0 {
		t.Errorf("the era 2 has %s", factsText(other.Facts()))
	}
	if l.Blanks() != 4 {
		t.Errorf("Blanks() = %d", l.Blanks())
	}
}

// Bad blocks of the era are in nobody's way, and nothing that they say counts.
func TestMakeBesideBadBlocks(t *testing.T) {
	old := made(t, odd)
	put(t, old, set(node(1), 1), set(node(2), 2))
	for old.Blanks() == 10 {
		put(t, old, set(node(3), 3))
	}
	c := old.Chip()
	for i, x := range taken(t, c, 1) {
		// What is struck leaves the block as it is.
		hit(t, c, api.Hit{Fails: true})
		if e := c.Erase(x.Block); e != api.ErrBad {
			t.Fatalf("Erase: %d", e)
		}
		if i == 0 {
			wantNoLog(t, c, 1, log.Make, api.ErrArg)
		}
	}
	wantFacts(t, open(t, c, 1), facts(is(node(1), 1), is(node(2), 2), is(node(3), 3)))
	l := makeOn(t, c, 1)
	wantFacts(t, l, nil)
	put(t, l, set(node(2), 9))
	wantFacts(t, l, facts(is(node(2), 9)))
}

func TestMakeWithoutRoom(t *testing.T) {
	c := blankChip(t, small)
	takeAll(t, c, 0)
	wantNothingDone(t, c, func() { wantNoLog(t, c, 1, log.Make, api.ErrFull) })
	wantNoLog(t, c, 1, log.Open, api.ErrCorrupt)
	all, e := nand.Load(small, blankChip(t, small).Bytes(), []int{0, 1, 2, 3, 4, 5, 6, 7})
	if e != api.OK {
		t.Fatalf("Load: %d", e)
	}
	wantNoLog(t, all, 1, log.Make, api.ErrFull)
	// One block is enough.
	c = blankChip(t, small)
	takeAll(t, c, 1)
	wantFacts(t, makeOn(t, c, 1), nil)
}

// wantMade: in the last block of the era stands a drop of its own Seq, and
// nothing else.
func wantMade(t *testing.T, l *log.Log, era uint32) {
	t.Helper()
	c := l.Chip()
	own := taken(t, c, era)
	if len(own) == 0 || len(l.Facts()) != 0 {
		t.Fatalf("%d blocks, the facts %s", len(own), factsText(l.Facts()))
	}
	last := own[len(own)-1]
	pages, _ := scan.Pages(c, last.Block)
	if len(pages) != 1 || pages[0].Page != 1 || pages[0].Drop != last.Head.Seq || last.Bad {
		t.Errorf("made:\n%s", told(c, era))
	}
	if got, e := scan.Facts(c, era); len(got) != 0 || e != api.OK {
		t.Errorf("scan.Facts = %s, %d", factsText(got), e)
	}
}

func TestMake(t *testing.T) {
	for _, g := range []api.Geo{small, odd, middle, large} {
		for _, era := range []uint32{1, 2, 258, math.MaxInt32} {
			c := blankChip(t, g)
			l := makeOn(t, c, era)
			wantMade(t, l, era)
			if l.Blanks() != g.Blocks-1 || l.Chip() != c || c.Deeds() != 2 {
				t.Errorf("Blanks() = %d, %d deeds", l.Blanks(), c.Deeds())
			}
		}
	}
}

// Blocks that fail while a log is made are passed by.
func TestMakeWithBlocksThatFail(t *testing.T) {
	for n := range 7 {
		for _, gap := range []int{0, 1, 2} {
			for _, mask := range [][]byte{nil, {0xff}, {0x33}} {
				c := blankChip(t, small)
				hits := slices.Repeat([]api.Hit{{After: gap, Fails: true, Mask: mask}}, n)
				hit(t, c, hits...)
				l := makeOn(t, c, 1)
				hit(t, c)
				wantMade(t, l, 1)
				if n < 6 {
					put(t, l, set(node(1), 1))
					wantFacts(t, l, facts(is(node(1), 1)))
				}
			}
		}
	}
	c := blankChip(t, small)
	hit(t, c, slices.Repeat([]api.Hit{{Fails: true, Mask: []byte{0x33}}}, 8)...)
	wantNoLog(t, c, 1, log.Make, api.ErrFull)
}

func TestOpenOfNone(t *testing.T) {
	c := makeOn(t, blankChip(t, small), 2).Chip()
	p, _ := pool.Scan(c)
	p.Take(api.KindTree, 1)
	p.Take(api.KindJour, 1)
	for _, era := range []uint32{1, 3, math.MaxInt32} {
		wantNothingDone(t, c, func() { wantNoLog(t, c, era, log.Open, api.ErrCorrupt) })
	}
}

func TestOpenWritesNothing(t *testing.T) {
	l := made(t, odd)
	put(t, l, set(node(1), 1))
	for range 40 {
		c := l.Chip()
		wantNothingDone(t, c, func() {
			o := open(t, c, 1)
			if !same(o.Facts(), l.Facts()) || o.Blanks() != l.Blanks() || o.Chip() != c {
				t.Errorf("opened: %s, %d blanks", factsText(o.Facts()), o.Blanks())
			}
		})
		puts(t, l, 1)
	}
}

// A block is enough, also a bad one, or one of which just the head stands.
func TestOpenOfOneBlock(t *testing.T) {
	c := blankChip(t, small)
	p, _ := pool.Scan(c)
	block, _ := p.Take(api.KindLog, 1)
	l := open(t, c, 1)
	wantFacts(t, l, nil)
	puts(t, l, 2)
	put(t, l, set(node(1), 5))
	wantFacts(t, l, facts(is(node(1), 5)))
	if l.Blanks() != 7 {
		t.Errorf("Blanks() = %d behind as many Puts as a block has pages", l.Blanks())
	}
	bad, e := nand.Load(small, c.Bytes(), []int{block})
	if e != api.OK {
		t.Fatalf("Load: %d", e)
	}
	l = open(t, bad, 1)
	wantFacts(t, l, facts(is(node(1), 5)))
	put(t, l, set(node(2), 6))
	wantFacts(t, l, facts(is(node(1), 5), is(node(2), 6)))
}

// P14.3: what is asked of no log, and of a dead chip.

func TestNoLog(t *testing.T) {
	for _, l := range []*log.Log{nil, {}} {
		for _, c := range [][]api.Change{nil, changes(set(node(1), 1)), changes(gone(node(0)))} {
			if e := l.Put(c); e != api.ErrNil {
				t.Errorf("Put = %d", e)
			}
		}
		for _, n := range []int{math.MinInt, -1, 0, 1, math.MaxInt} {
			if e := l.Tidy(n); e != api.ErrNil {
				t.Errorf("Tidy(%d) = %d", n, e)
			}
		}
		if e := l.Sync(); e != api.ErrNil {
			t.Errorf("Sync = %d", e)
		}
		if len(l.Facts()) != 0 || l.Blanks() != 0 || l.Chip() != nil {
			t.Errorf("of none: %v, %d", l.Facts(), l.Blanks())
		}
	}
}

func TestDeadChip(t *testing.T) {
	l := made(t, small)
	put(t, l, set(node(1), 5))
	c := l.Chip()
	kill(t, c)
	for range 2 {
		for _, x := range [][]api.Change{nil, changes(set(node(1), 1)), changes(gone(node(0))), changes(set(node(1), make([]byte, 200)...))} {
			if e := l.Put(x); e != api.ErrDead {
				t.Errorf("Put = %d", e)
			}
		}
		for _, n := range []int{math.MinInt, -1, 0, 1, 7, 8, math.MaxInt} {
			if e := l.Tidy(n); e != api.ErrDead {
				t.Errorf("Tidy(%d) = %d", n, e)
			}
		}
		if e := l.Sync(); e != api.ErrDead {
			t.Errorf("Sync = %d", e)
		}
		if !same(l.Facts(), facts(is(node(1), 5))) || l.Blanks() != 7 || l.Chip() != c {
			t.Errorf("of a dead chip: %s, %d", factsText(l.Facts()), l.Blanks())
		}
	}
}

func TestSync(t *testing.T) {
	l := made(t, small)
	for range 30 {
		wantNothingDone(t, l.Chip(), func() {
			if e := l.Sync(); e != api.OK {
				t.Errorf("Sync = %d", e)
			}
		})
		puts(t, l, 1)
	}
}

func TestBlanks(t *testing.T) {
	l := made(t, odd)
	for i := range 120 {
		p, _ := pool.Scan(power(t, l.Chip()))
		if l.Blanks() != p.Blanks() {
			t.Fatalf("Blanks() = %d behind %d Puts; there are %d", l.Blanks(), i, p.Blanks())
		}
		puts(t, l, 1)
	}
	// What is junk can be taken, too; what is bad cannot.
	c := blankChip(t, odd)
	for i, b := range [][]byte{make([]byte, 131), bytes.Repeat([]byte{0x7f}, 131)} {
		if e := c.Program(3+i, 2, b); e != api.OK {
			t.Fatalf("Program: %d", e)
		}
	}
	c, e := nand.Load(odd, c.Bytes(), []int{5, 6})
	if e != api.OK {
		t.Fatalf("Load: %d", e)
	}
	if l := makeOn(t, c, 1); l.Blanks() != 8 {
		t.Errorf("Blanks() = %d", l.Blanks())
	}
}

// cost answers how many blocks it takes to tidy, if none goes bad.
func cost(t *testing.T, g api.Geo, l []api.Fact) int {
	t.Helper()
	n, e := pack.Many(g.Size, l)
	if e != api.OK {
		t.Fatalf("Many: %d", e)
	}
	return (n + 1 + g.Pages - 2) / (g.Pages - 1)
}

// usable answers how many blocks are the log's, or blank or junk, and not bad.
func usable(t *testing.T, c *nand.Chip) int {
	t.Helper()
	p, e := pool.Scan(c)
	if e != api.OK {
		t.Fatalf("Scan: %d", e)
	}
	n := p.Blanks()
	for _, x := range taken(t, c, 1) {
		if !x.Bad {
			n++
		}
	}
	return n
}

// isFull says whether nothing can be written in the last block of the era.
func isFull(t *testing.T, c *nand.Chip) bool {
	t.Helper()
	own := taken(t, c, 1)
	last := own[len(own)-1]
	b, e := c.Read(last.Block, c.Geo().Pages-1)
	return last.Bad || e != api.OK || !seal.Blank(b)
}

// firstSeq answers the Seq of the first block that counts: a tidy changes it.
func firstSeq(t *testing.T, c *nand.Chip) uint64 {
	t.Helper()
	count, _, e := scan.Blocks(c, 1)
	if e != api.OK || len(count) == 0 {
		t.Fatalf("Blocks = %v, %d", count, e)
	}
	for _, x := range taken(t, c, 1) {
		if x.Block == count[0] {
			return x.Head.Seq
		}
	}
	t.Fatal("a block is not taken")
	return 0
}

// It tidies by itself where fewer blocks would be left blank than it takes to tidy
// and may go bad, so that there are always as many as it takes; and only there.
func TestTidiesByItself(t *testing.T) {
	t.Parallel()
	for _, g := range []api.Geo{small, odd, middle, wide, {Blocks: 64, Pages: 4, Size: 128, Spares: 4}} {
		for _, keys := range []int{1, 3, 9} {
			l := made(t, g)
			c := l.Chip()
			tidied := 0
			var m []api.Fact
			for i := range g.Blocks * g.Pages * 2 {
				change := set(node(1+i*7%keys), bytes.Repeat([]byte{byte(i)}, 1+i%90)...)
				m = fact.Apply(m, changes(change))
				left := l.Blanks()
				if isFull(t, c) {
					left--
				}
				least := cost(t, g, m)
				most := least + max(g.Spares, usable(t, c)-room.Want(g, len(m)))
				was := firstSeq(t, c)
				put(t, l, change)
				did := firstSeq(t, c) != was
				if did {
					tidied++
				}
				if left < least && !did || left >= most && did {
					t.Fatalf("%v: %d blocks would have been left of %d, %d: %v", g, left, least, most, did)
				}
				if l.Blanks() < least {
					t.Fatalf("%v: %d blocks are left of %d", g, l.Blanks(), least)
				}
			}
			if tidied == 0 {
				t.Errorf("%v: it did not tidy", g)
			}
			wantFacts(t, l, m)
		}
	}
}

// A Put that does not tidy asks for a deed, or for two, if it takes a block.
func TestDeedsOfAPut(t *testing.T) {
	l := made(t, middle)
	c := l.Chip()
	for i := range 30 {
		deeds, full := c.Deeds(), isFull(t, c)
		puts(t, l, 1)
		want := 1
		if full {
			want = 2
		}
		if c.Deeds()-deeds != want {
			t.Errorf("the Put %d: %d deeds", i, c.Deeds()-deeds)
		}
	}
}

func mustPut(t *testing.T, size int, l ...api.Change) []byte {
	t.Helper()
	b, e := rec.Put(size, l)
	if e != api.OK {
		t.Fatalf("rec.Put: %d", e)
	}
	return b
}

func mustDrop(t *testing.T, size int, seq uint64) []byte {
	t.Helper()
	b, e := rec.PutDrop(size, seq)
	if e != api.OK {
		t.Fatalf("PutDrop: %d", e)
	}
	return b
}
