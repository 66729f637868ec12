package log_test

import (
	"bytes"
	"fmt"
	"testing"

	"carrack/api"
	"carrack/fact"
	"carrack/log"
	"carrack/nand"
	"carrack/pool"
	"carrack/scan"
)

// Logs that stand on chips which were laid by hand.

// laid are the pages of a block, from its first one on.
type laid struct {
	block int
	pages [][]byte
}

// lay answers a chip of the geometry with these blocks. All others are another
// Kind's, but for so many of the last ones.
func lay(t *testing.T, g api.Geo, bad []int, blank int, blocks ...laid) *nand.Chip {
	t.Helper()
	all := bytes.Repeat([]byte{0xff}, g.Blocks*g.Pages*g.Size)
	for i := range g.Blocks - blank {
		b, _ := pool.PutHead(g.Size, api.Head{Kind: api.KindTree, Era: 9, Seq: uint64(100 + i)})
		copy(all[i*g.Pages*g.Size:], b)
	}
	for _, l := range blocks {
		copy(all[l.block*g.Pages*g.Size:], bytes.Join(l.pages, nil))
	}
	c, e := nand.Load(g, all, bad)
	if e != api.OK {
		t.Fatalf("Load: %d", e)
	}
	return c
}

// logBlock is a block of the era 1 with these pages behind its head.
func logBlock(block int, seq uint64, pages ...[]byte) laid {
	return laid{block, append([][]byte{headPage(seq)}, pages...)}
}

// singles are masks that erase one page of a block alone, or all but one.
func singles(g api.Geo) [][]byte {
	var l [][]byte
	for i := range g.Pages {
		one := make([]byte, g.Pages*g.Size)
		copy(one[i*g.Size:], bytes.Repeat([]byte{0xff}, g.Size))
		rest := bytes.Repeat([]byte{0xff}, g.Pages*g.Size)
		copy(rest[i*g.Size:], make([]byte, g.Size))
		l = append(l, one, rest)
	}
	return l
}

// wantKept: Put and Tidy, wherever they are cut, with whatever mask, change
// nothing but what was put, and there is a log.
func wantKept(t *testing.T, c *nand.Chip) {
	t.Helper()
	g := c.Geo()
	m, _ := scan.Facts(c, 1)
	for _, put := range [][]api.Change{nil, {set(node(3), 3)}, {gone(node(1))}, nodes(20)} {
		behind := fact.Apply(m, put)
		do := func(l *log.Log) api.Errno {
			if put == nil {
				return l.Tidy(1000)
			}
			return l.Put(put)
		}
		for _, mask := range append(singles(g), nil, []byte{0xff}) {
			for _, fails := range []bool{false, true} {
				for n := 0; ; n++ {
					next := power(t, c)
					l := open(t, next, 1)
					hit(t, next, api.Hit{After: n, Mask: mask, Fails: fails})
					e := do(l)
					got, _ := scan.Facts(power(t, next), 1)
					o := open(t, power(t, next), 1)
					ok := same(got, m) || e == api.ErrDead && same(got, behind)
					if e == api.OK {
						ok = same(got, behind)
					}
					if !ok || !same(o.Facts(), got) || e != api.ErrDead && !same(l.Facts(), got) {
						t.Fatalf("%v, the deed %d, fails %v: %d, scan tells %s, of\n%s", put, n, fails, e, factsText(got), told(next, 1))
					}
					if next.Deeds() <= n {
						break
					}
				}
			}
		}
	}
}

func TestLaidLogs(t *testing.T) {
	t.Parallel()
	g := api.Geo{Blocks: 8, Pages: 4, Size: 128, Spares: 4}
	p := func(l ...api.Change) []byte { return mustPut(t, 128, l...) }
	one, other := p(set(node(1), 1)), p(set(node(1), 2))
	for _, blank := range []int{0, 1, 3} {
		for i, blocks := range [][]laid{
			{logBlock(0, 1)},
			{logBlock(0, 1), logBlock(1, 2)},
			{logBlock(0, 1, one), logBlock(1, 2)},
			{logBlock(0, 1), logBlock(1, 2, one)},
			{logBlock(0, 1, one), logBlock(1, 2, one)},
			{logBlock(0, 1, one), logBlock(1, 2, other, one)},
			{logBlock(0, 1, one, other, one), logBlock(1, 2, other, one, one)},
			{logBlock(0, 1, one), logBlock(1, 2, other), logBlock(2, 3, one)},
			{logBlock(0, 1, p(set(node(2), 7)), one), logBlock(1, 2, p(gone(node(2)))), logBlock(2, 3, one)},
			{logBlock(0, 1, p(gone(node(1))), one), logBlock(1, 2, p(gone(node(1))), one)},
			{logBlock(0, 2, one), logBlock(1, 1, p(set(node(2), 9))), logBlock(2, 3, mustDrop(t, 128, 2))},
			{logBlock(0, 2, one), logBlock(1, 1, p(set(node(2), 9)), mustDrop(t, 128, 2)), logBlock(2, 3, one)},
			{logBlock(0, 2, mustDrop(t, 128, 2), one), logBlock(1, 1, p(set(node(2), 9)), one), logBlock(2, 3, one)},
			{logBlock(0, 1, p(set(node(2), 9), set(node(1), 7)), one), logBlock(1, 1, one), logBlock(2, 1, p(set(node(2), 8)))},
		} {
			for _, bad := range [][]int{nil, {1}, {0, 1}} {
				t.Logf("the blocks %d, bad %v, %d blank", i, bad, blank)
				wantKept(t, lay(t, g, bad, blank, blocks...))
			}
		}
	}
}

// Where all that is blank was given back by what was of no use, it is put in the
// last block that is left.
func TestPutBehindWhatWasFreed(t *testing.T) {
	l := made(t, small)
	var m []api.Fact
	for i := range 7 {
		c := changes(set(node(1+i), long(byte(i))...))
		put(t, l, c...)
		m = fact.Apply(m, c)
	}
	// Four pages of the tidy are written: as many as fill a block, and one.
	c := l.Chip()
	hit(t, c, api.Hit{After: 6})
	if e := l.Tidy(1000); e != api.ErrDead {
		t.Fatalf("Tidy = %d", e)
	}
	c = power(t, c)
	takeAll(t, c, 0)
	l = open(t, c, 1)
	wantFacts(t, l, m)
	for i := range 6 {
		c := changes(gone(node(1+i)), set(node(7), byte(i)))
		if i == 0 {
			c = append(nodes(6), set(node(7), 1))
		}
		switch e := l.Put(c); e {
		case api.OK:
			m = fact.Apply(m, c)
		case api.ErrFull:
		default:
			t.Fatalf("Put = %d", e)
		}
		wantFacts(t, l, m)
	}
	if len(m) != 1 {
		t.Errorf("the facts are %s", factsText(m))
	}
}

// A block that is of no use is room to tidy, be it the second one.
func TestTidyIntoABlockOfNoUse(t *testing.T) {
	one := mustPut(t, 128, set(node(1), 1))
	for _, blocks := range [][]laid{
		{logBlock(0, 1, one), logBlock(1, 2)},
		{logBlock(0, 1, one), logBlock(1, 2, one)},
		{logBlock(0, 1, one, mustPut(t, 128, set(node(2), 2))), logBlock(1, 2, one), logBlock(2, 3, mustPut(t, 128, gone(node(2))))},
	} {
		l := open(t, lay(t, small, nil, 0, blocks...), 1)
		if e := l.Tidy(len(blocks) - 1); e != api.OK {
			t.Errorf("Tidy = %d, of\n%s", e, told(l.Chip(), 1))
		}
		wantFacts(t, l, facts(is(node(1), 1)))
		wantTidied(t, l)
	}
}

// Where a tidy has no room there may be some for what takes facts away.
func TestPutOfLessWhereATidyHasNoRoom(t *testing.T) {
	l := made(t, small)
	var m []api.Fact
	for i := range 8 {
		c := changes(set(node(1+i), long(byte(i))...))
		put(t, l, c...)
		m = fact.Apply(m, c)
	}
	c := l.Chip()
	takeAll(t, c, 2)
	l = open(t, c, 1)
	wantRefused(t, l, changes(set(node(1), long(1)...)), api.ErrFull)
	wantFacts(t, l, m)
	put(t, l, nodes(6)...)
	m = fact.Apply(m, nodes(6))
	wantFacts(t, l, m)
	put(t, l, set(node(1), 1))
	wantFacts(t, l, fact.Apply(m, changes(set(node(1), 1))))
}

// Where blocks went bad behind the last fact that there was room for, there is
// room still for what takes facts away, one by one.
func TestPutOfLessWhereBlocksWentBad(t *testing.T) {
	for _, g := range []api.Geo{small, wide, middle} {
		for fails := 1; fails < 4; fails++ {
			l := made(t, g)
			m := fill(t, l)
			c := l.Chip()
			p, _ := pool.Scan(c)
			for i := range fails {
				hit(t, c, api.Hit{Fails: true})
				block, _ := p.Take(api.KindTree, uint32(2+i))
				if e := p.Free(block); e != api.OK {
					t.Fatalf("Free: %d", e)
				}
			}
			for len(m) > 0 {
				l = open(t, power(t, c), 1)
				c = l.Chip()
				for len(m) > 0 {
					x := changes(gone(m[len(m)/3].Key))
					put(t, l, x...)
					m = fact.Apply(m, x)
					wantFacts(t, l, m)
				}
			}
			puts(t, l, 100)
		}
	}
}

// Where not a block is left to tidy there is no room.
func TestPutWhereNoBlockIsLeft(t *testing.T) {
	l := made(t, small)
	put(t, l, set(node(1), 1))
	c := l.Chip()
	takeAll(t, c, 0)
	l = open(t, c, 1)
	for _, x := range [][]api.Change{{set(node(1), 2)}, {set(node(2), 2)}} {
		if e := l.Put(x); e != api.ErrFull {
			t.Errorf("Put = %d", e)
		}
		wantFacts(t, l, facts(is(node(1), 1)))
	}
}

// Where blocks are left, but none to tidy, as each one says what no other says,
// there is no room, either.
func TestPutWhereEachBlockIsOfUse(t *testing.T) {
	c := lay(t, small, nil, 0,
		logBlock(0, 1, mustPut(t, 128, set(node(1), 1), set(node(2), 2))),
		logBlock(1, 2, mustPut(t, 128, gone(node(2))), mustPut(t, 128, set(node(3), 3))),
		logBlock(2, 3, mustPut(t, 128, gone(node(3)))))
	l := open(t, c, 1)
	for range 2 {
		for _, x := range [][]api.Change{{set(node(1), 2)}, {set(node(2), 2)}, {gone(node(9))}} {
			wantRefused(t, l, x, api.ErrFull)
		}
		if e := l.Tidy(1); e != api.ErrFull {
			t.Errorf("Tidy = %d", e)
		}
		wantFacts(t, l, facts(is(node(1), 1)))
	}
	// What takes facts away makes room.
	put(t, l, gone(node(1)))
	puts(t, l, 50)
}

// Where it would not help it does not tidy by itself: not for each Put, at least.
func TestTidiesOnlyWhereItHelps(t *testing.T) {
	g := api.Geo{Blocks: 8, Pages: 8, Size: 128, Spares: 4}
	l := made(t, g)
	for i := range 13 {
		put(t, l, set(node(1+i), long(1)...))
	}
	tidied := 0
	const often = 70
	for i := range often {
		was := firstSeq(t, l.Chip())
		put(t, l, set(node(1), long(byte(i))...))
		if firstSeq(t, l.Chip()) != was {
			tidied++
		}
	}
	if tidied == 0 || tidied > often/(g.Pages-1)+1 {
		t.Errorf("it tidied %d times", tidied)
	}
}

// More blocks fail than there is room for: whatever is answered, the facts are
// those that scan tells; and of few keys there is room as long as blocks are left.
func TestMoreFailuresThanRoom(t *testing.T) {
	t.Parallel()
	for fails := 1; fails < 6; fails++ {
		for at := 0; at < 90; at += 2 {
			for _, s := range []series{fewKeys(1), fewKeys(3), fullPages(3), rolling(4)} {
				c := blankChip(t, small)
				if at%4 == 0 {
					c = lay(t, small, []int{2}, small.Blocks, logBlock(2, 1, mustPut(t, 128, set(node(9), 9))))
				}
				l := makeOn(t, c, 1)
				hit(t, c, failing(at, at%3, fails)...)
				var m []api.Fact
				for i := range 60 {
					e := l.Put(s.put(i))
					name := fmt.Sprintf("%s, %d fail from %d on: the Put %d = %d", s.name, fails, at, i, e)
					if e == api.OK {
						m = fact.Apply(m, s.put(i))
					} else if e != api.ErrFull || fails < 3 && s.facts == 1 {
						t.Fatalf("%s, of\n%s", name, told(l.Chip(), 1))
					}
					if got, _ := scan.Facts(l.Chip(), 1); !same(got, m) || !same(l.Facts(), m) {
						t.Fatalf("%s: scan tells %s, it has %s; want %s", name, factsText(got), factsText(l.Facts()), factsText(m))
					}
				}
			}
		}
	}
}
