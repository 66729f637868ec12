package log_test

import (
	"bytes"
	"fmt"
	"math"
	"slices"
	"testing"

	"carrack/api"
	"carrack/fact"
	"carrack/log"
	"carrack/nand"
	"carrack/pack"
	"carrack/pool"
	"carrack/scan"
)

// P14.3: Tidy.

func TestTidyOfAsManyAsThereAre(t *testing.T) {
	for _, g := range []api.Geo{small, odd, middle} {
		l := made(t, g)
		for range 50 {
			wantNothingDone(t, l.Chip(), func() {
				for _, n := range []int{math.MinInt, -1, 0, 1, l.Blanks() - 1, l.Blanks()} {
					if n > l.Blanks() {
						continue
					}
					if e := l.Tidy(n); e != api.OK {
						t.Errorf("Tidy(%d) = %d of %d blanks", n, e, l.Blanks())
					}
				}
			})
			puts(t, l, 1)
		}
	}
}

// wantTidied: behind the blocks that are bad the era has those alone that are
// told: pages of facts, then a drop of the Seq of the first one.
func wantTidied(t *testing.T, l *log.Log) {
	t.Helper()
	c := l.Chip()
	g := c.Geo()
	pages, e := pack.Pages(g.Size, l.Facts())
	if e != api.OK {
		t.Fatalf("Pages: %d", e)
	}
	count, dropped, e := scan.Blocks(c, 1)
	if e != api.OK || len(count) != (len(pages)+g.Pages-1)/(g.Pages-1) {
		t.Fatalf("Blocks = %v, %v, %d, of %d pages of facts", count, dropped, e, len(pages))
	}
	for _, block := range dropped {
		if !c.Bad(block) {
			t.Errorf("the block %d was not freed", block)
		}
	}
	pages = append(pages, mustDrop(t, g.Size, firstSeq(t, c)))
	for i := range len(count) * (g.Pages - 1) {
		want := bytes.Repeat([]byte{0xff}, g.Size)
		if i < len(pages) {
			want = pages[i]
		}
		b, e := c.Read(count[i/(g.Pages-1)], 1+i%(g.Pages-1))
		if !bytes.Equal(b, want) || e != api.OK {
			t.Fatalf("the page %d is %x; want %x", i, b, want)
		}
	}
}

func TestTidyOfOneMore(t *testing.T) {
	for _, g := range []api.Geo{small, odd, middle, large} {
		for _, keys := range []int{1, 4, 11} {
			l := made(t, g)
			var m []api.Fact
			for i := range 3 * g.Pages {
				c := changes(set(node(1+i%keys), bytes.Repeat([]byte{byte(i)}, 30)...))
				put(t, l, c...)
				m = fact.Apply(m, c)
			}
			was, blanks := firstSeq(t, l.Chip()), l.Blanks()
			if e := l.Tidy(blanks + 1); e != api.OK {
				t.Fatalf("Tidy(%d) = %d, of\n%s", blanks+1, e, told(l.Chip(), 1))
			}
			wantFacts(t, l, m)
			wantTidied(t, l)
			if l.Blanks() != g.Blocks-cost(t, g, m) || firstSeq(t, l.Chip()) <= was {
				t.Errorf("%d are blank; the first Seq was %d, and is %d", l.Blanks(), was, firstSeq(t, l.Chip()))
			}
			puts(t, l, 100)
			wantFacts(t, l, fact.Apply(m, changes(set(node(1), 99, 1))))
		}
	}
}

// A tidy without facts writes just a drop.
func TestTidyWithoutFacts(t *testing.T) {
	l := made(t, small)
	for i := range 5 {
		put(t, l, set(node(1), byte(i)), gone(node(1)))
	}
	if e := l.Tidy(7); e != api.OK {
		t.Fatalf("Tidy = %d", e)
	}
	wantFacts(t, l, nil)
	wantTidied(t, l)
}

// Of more than can be blank it tidies all the same.
func TestTidyOfTooMany(t *testing.T) {
	for _, n := range []int{8, 9, 1000, math.MaxInt} {
		l := made(t, small)
		puts(t, l, 9)
		put(t, l, set(node(2), long(2)...), set(node(1), 7))
		for range 2 {
			if e := l.Tidy(n); e != api.ErrFull {
				t.Errorf("Tidy(%d) = %d", n, e)
			}
			wantFacts(t, l, facts(is(node(1), 7), is(node(2), long(2)...)))
			wantTidied(t, l)
		}
		if e := l.Tidy(7); e != api.OK || l.Blanks() != 7 {
			t.Errorf("Tidy(7) = %d, %d are blank", e, l.Blanks())
		}
		puts(t, l, 40)
	}
}

// As many facts as there is room for.
func TestTidyOfManyFacts(t *testing.T) {
	for _, g := range []api.Geo{small, odd, middle} {
		l := made(t, g)
		m := fill(t, l)
		can := g.Blocks - cost(t, g, m)
		if e := l.Tidy(can + 1); e != api.ErrFull {
			t.Errorf("Tidy(%d) = %d", can+1, e)
		}
		wantTidied(t, l)
		if e := l.Tidy(can); e != api.OK || l.Blanks() != can {
			t.Errorf("Tidy(%d) = %d, %d are blank", can, e, l.Blanks())
		}
		wantFacts(t, l, m)
		put(t, l, gone(m[0].Key))
	}
}

// Where others took all blocks there is no room to tidy.
func TestTidyWithoutRoom(t *testing.T) {
	for left := range 2 {
		l := made(t, small)
		var m []api.Fact
		for i := range 5 {
			c := changes(set(node(1+i), long(byte(i))...))
			put(t, l, c...)
			m = fact.Apply(m, c)
		}
		c := l.Chip()
		takeAll(t, c, left)
		l = open(t, c, 1)
		for _, n := range []int{left + 1, left + 2, 8, math.MaxInt} {
			if e := l.Tidy(n); e != api.ErrFull {
				t.Errorf("Tidy(%d) = %d", n, e)
			}
			wantFacts(t, l, m)
		}
		wantNothingDone(t, c, func() {
			if e := l.Tidy(left); e != api.OK {
				t.Errorf("Tidy(%d) = %d", left, e)
			}
		})
	}
}

// Bad blocks of the era stay, and do not count.
func TestTidyWithBadBlocks(t *testing.T) {
	for _, mask := range masks(odd) {
		l := made(t, odd)
		c := l.Chip()
		var m []api.Fact
		fails := 0
		for i := range 16 {
			if i > 5*fails && fails < 2 && !isFull(t, c) {
				hit(t, c, api.Hit{Fails: true, Mask: mask})
				fails++
			}
			change := changes(set(node(10+i), byte(i)), gone(node(7+i)))
			put(t, l, change...)
			m = fact.Apply(m, change)
		}
		wantFacts(t, l, m)
		if e := l.Tidy(8); e != api.OK {
			t.Fatalf("Tidy = %d, of\n%s", e, told(c, 1))
		}
		wantFacts(t, l, m)
		wantTidied(t, l)
		_, dropped, _ := scan.Blocks(c, 1)
		if len(dropped) != 2 || fails != 2 || l.Blanks() != 8 {
			t.Errorf("%d blocks failed, dropped: %v, %d are blank", fails, dropped, l.Blanks())
		}
		puts(t, l, 60)
		wantFacts(t, l, fact.Apply(m, changes(set(node(1), 59, 1))))
	}
}

// Whichever deed of a tidy fails: it is done all the same.
func TestTidyWhereADeedFails(t *testing.T) {
	for _, g := range []api.Geo{odd, middle, wide} {
		l := made(t, g)
		var m []api.Fact
		for i := range 40 {
			c := changes(set(node(1+i%9), bytes.Repeat([]byte{byte(i)}, 50)...))
			put(t, l, c...)
			m = fact.Apply(m, c)
		}
		for _, mask := range masks(g) {
			for n := 0; ; n++ {
				c := power(t, l.Chip())
				o := open(t, c, 1)
				blanks := o.Blanks()
				hit(t, c, api.Hit{After: n, Fails: true, Mask: mask})
				if e := o.Tidy(blanks + 1); e != api.OK {
					t.Fatalf("the deed %d fails: Tidy(%d) = %d, of\n%s", n, blanks+1, e, told(c, 1))
				}
				deeds := c.Deeds()
				hit(t, c)
				wantFacts(t, o, m)
				put(t, o, set(node(1), 1))
				wantFacts(t, o, fact.Apply(m, changes(set(node(1), 1))))
				if deeds <= n {
					break
				}
			}
		}
	}
}

// Also where just as many blocks are left as it takes to tidy.
func TestTidyOfTheLastBlockWhereADeedFails(t *testing.T) {
	for n := 9; n <= 20; n++ {
		for at := range 12 {
			for _, mask := range masks(small) {
				l := made(t, small)
				puts(t, l, n)
				blanks := l.Blanks()
				hit(t, l.Chip(), api.Hit{After: at, Fails: true, Mask: mask})
				if e := l.Tidy(blanks + 1); e != api.OK || l.Blanks() <= blanks {
					t.Fatalf("behind %d Puts, the deed %d fails: Tidy(%d) = %d, of\n%s", n, at, blanks+1, e, told(l.Chip(), 1))
				}
				wantFacts(t, l, facts(is(node(1), byte(n-1), 1)))
			}
		}
	}
}

// wantTidyCut: what a cut tidy leaves tells the facts, and can be tidied.
func wantTidyCut(t *testing.T, c *nand.Chip, m []api.Fact) {
	t.Helper()
	wantEither(t, power(t, c), m, m)
	l := open(t, c, 1)
	if e := l.Tidy(1000); e != api.ErrFull {
		t.Fatalf("Tidy(1000) = %d", e)
	}
	wantFacts(t, l, m)
	wantTidied(t, l)
	if l.Blanks() != c.Geo().Blocks-cost(t, c.Geo(), m) {
		t.Fatalf("%d are blank, of\n%s", l.Blanks(), told(c, 1))
	}
}

// Tidies of few facts, and of many, are cut at each deed: the facts stay.
func TestCutTidies(t *testing.T) {
	t.Parallel()
	for _, g := range []api.Geo{small, odd} {
		for _, keys := range []int{1, 5, 8} {
			l := made(t, g)
			var m []api.Fact
			for i := range 20 {
				c := changes(set(node(1+i%keys), bytes.Repeat([]byte{byte(i)}, 60)...))
				put(t, l, c...)
				m = fact.Apply(m, c)
				if i%4 != 3 {
					continue
				}
				cutEach(t, l.Chip(), masks(g),
					func(l *log.Log) api.Errno {
						e := l.Tidy(1000)
						if e == api.ErrFull {
							e = api.OK
						}
						return e
					},
					func(c *nand.Chip) { wantTidyCut(t, c, m) })
			}
		}
	}
}

// A tidy is cut at the same deed again and again, and then is done.
func TestTidyCutAgainAndAgain(t *testing.T) {
	for _, g := range []api.Geo{small, odd, middle} {
		for every := range 12 {
			l := made(t, g)
			var m []api.Fact
			for i := range 17 {
				c := changes(set(node(1+i%5), bytes.Repeat([]byte{byte(i)}, 60)...))
				put(t, l, c...)
				m = fact.Apply(m, c)
			}
			c := power(t, l.Chip())
			for i := range 40 {
				l = open(t, c, 1)
				hit(t, c, api.Hit{After: every, Mask: masks(g)[i%7]})
				if e := l.Tidy(1000); e != api.ErrDead && e != api.ErrFull {
					t.Fatalf("Tidy = %d", e)
				}
				c = power(t, c)
				if got, e := scan.Facts(c, 1); !same(got, m) || e != api.OK {
					t.Fatalf("cut at the deed %d, %d times: %s; want %s, of\n%s", every, i, factsText(got), factsText(m), told(c, 1))
				}
			}
			wantTidyCut(t, c, m)
		}
	}
}

// What a tidy that was cut leaves, with each mask, while all blocks are in use.
func TestPutsBehindCutTidies(t *testing.T) {
	for n := range 14 {
		for i, mask := range masks(small) {
			l := made(t, small)
			m := fill(t, l)
			c := l.Chip()
			hit(t, c, api.Hit{After: n, Mask: mask})
			e := l.Tidy(1000)
			if e != api.ErrDead && e != api.ErrFull {
				t.Fatalf("Tidy = %d", e)
			}
			l = open(t, power(t, c), 1)
			wantFacts(t, l, m)
			for j := range 30 {
				c := changes(set(node(1+j%len(m)), long(byte(i+j))...))
				put(t, l, c...)
				m = fact.Apply(m, c)
			}
			wantFacts(t, l, m)
		}
	}
}

// Blocks that a tidy which was cut has left are freed with the others.
func TestTidyFreesWhatWasLeft(t *testing.T) {
	for n := range 16 {
		l := made(t, middle)
		puts(t, l, 20)
		c := l.Chip()
		hit(t, c, api.Hit{After: n})
		l.Tidy(16)
		l = open(t, power(t, c), 1)
		if e := l.Tidy(15); e != api.OK || l.Blanks() != 15 {
			t.Errorf("cut at the deed %d: Tidy(15) = %d, %d are blank", n, e, l.Blanks())
		}
		wantFacts(t, l, facts(is(node(1), 19, 1)))
	}
}

// The Seqs go on rising, also those of drops.
func TestSeqsRise(t *testing.T) {
	l := made(t, small)
	c := l.Chip()
	was := firstSeq(t, c)
	for i := range 30 {
		puts(t, l, 2)
		if e := l.Tidy(8); e != api.ErrFull {
			t.Fatalf("Tidy(8) = %d", e)
		}
		own := taken(t, c, 1)
		if len(own) != 1 || own[0].Head.Seq <= was {
			t.Fatalf("behind %d tidies: %v; the Seq was %d", i, own, was)
		}
		was = own[0].Head.Seq
		pages, _ := scan.Pages(c, own[0].Block)
		if last := pages[len(pages)-1]; last.Drop != was {
			t.Fatalf("the drop is %d; want %d", last.Drop, was)
		}
	}
}

// Other eras' blocks are not the log's to free.
func TestTidyBesideOthers(t *testing.T) {
	c := blankChip(t, middle)
	p, _ := pool.Scan(c)
	for i := range 3 {
		for kind := uint8(api.KindLog); kind <= api.KindJour; kind++ {
			if _, e := p.Take(kind, uint32(2+i)); e != api.OK {
				t.Fatalf("Take: %d", e)
			}
		}
	}
	p.Take(api.KindTree, 1)
	p.Take(api.KindJour, 1)
	was := fmt.Sprint(p.Taken())
	l := makeOn(t, c, 1)
	puts(t, l, 100)
	if e := l.Tidy(4); e != api.OK {
		t.Errorf("Tidy = %d", e)
	}
	p, _ = pool.Scan(c)
	rest := slices.DeleteFunc(p.Taken(), func(x api.Taken) bool { return x.Head.Kind == api.KindLog && x.Head.Era == 1 })
	if fmt.Sprint(rest) != was {
		t.Errorf("the others' blocks were %s, and are %v", was, rest)
	}
}
