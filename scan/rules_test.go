package scan_test

import (
	"bytes"
	"fmt"
	"testing"

	"carrack/api"
	"carrack/nand"
	"carrack/scan"
)

// asked answers all that is told of the chip, of a few eras and each block, and
// of what is none.
func asked(c *nand.Chip) string {
	s := ""
	for _, era := range []uint32{0, 1, 2, 3} {
		count, dropped, e := scan.Blocks(c, era)
		l, f := scan.Facts(c, era)
		s += fmt.Sprint("era ", era, ": ", count, dropped, int(e), int(f), "\n", factsText(l))
	}
	for block := -1; block <= c.Geo().Blocks; block++ {
		l, e := scan.Pages(c, block)
		s += fmt.Sprint("block ", block, ": ", int(e), "\n", pagesText(l))
	}
	return s
}

// full is a chip of which each call answers much.
func full(t *testing.T) *nand.Chip {
	t.Helper()
	return chipOf(t, odd, list(1, 9), three(
		logs(0, 5), says(0, 1, set(node(1), 1)), drops(0, 2, 2),
		says(4, 1, set(node(1), 1), set(node(2), 2, 2, 2)), says(4, 2, gone(node(1)), set(entry(1, "a"), 2, 0)),
		drops(1, 1, 10), says(1, 2, set(node(7), 7), set(piece(7, 7), 1, 2, 3), set(piece(7, 6), 1, 2, 3)),
		torn(says(8, 1, set(node(9), 9))), says(8, 2, set(node(1), 4)),
		head(5, api.KindLog, 2, 99), says(5, 1, set(node(3), 3)),
		says(9, 1, set(node(4), 4)))...)
}

// What is handed in stays as it is: a chip is read, and no more.
func TestChipStays(t *testing.T) {
	c := full(t)
	if e := c.Hits([]api.Hit{{Mask: []byte{1}}}); e != api.OK {
		t.Fatalf("Hits: %d", e)
	}
	was := c.Bytes()
	asked(c)
	if !bytes.Equal(c.Bytes(), was) {
		t.Error("the chip's bytes were changed")
	}
	if c.Deeds() != 0 {
		t.Errorf("%d deeds were counted", c.Deeds())
	}
	for i := range odd.Blocks {
		if c.Bad(i) != (i == 1 || i == 9) {
			t.Errorf("Bad(%d) = %v", i, c.Bad(i))
		}
	}
	// The hit still strikes the next deed; what is dead stays as it is, too.
	if e := c.Erase(0); e != api.ErrDead {
		t.Errorf("Erase = %d", e)
	}
	was = c.Bytes()
	asked(c)
	if !bytes.Equal(c.Bytes(), was) || c.Deeds() != 1 {
		t.Errorf("the dead chip was changed, or %d deeds were counted", c.Deeds())
	}
}

func spoilInts(l []int) {
	l = l[:cap(l)]
	for i := range l {
		l[i] = -9
	}
}

func spoilBytes(b []byte) {
	b = b[:cap(b)]
	for i := range b {
		b[i] ^= 0xff
	}
}

func spoilFacts(l []api.Fact) {
	l = l[:cap(l)]
	for i := range l {
		spoilBytes(l[i].Value)
		l[i] = is(node(-9))
	}
}

func spoilPages(l []api.Page) {
	l = l[:cap(l)]
	for i := range l {
		all := l[i].Changes[:cap(l[i].Changes)]
		for j := range all {
			spoilBytes(all[j].Value)
			all[j] = gone(node(-9))
		}
		l[i] = api.Page{Page: -9, Drop: 9}
	}
}

// What is answered shares memory with no chip and no other answer.
func TestAnswersAreNewMemory(t *testing.T) {
	c := full(t)
	want := asked(c)
	count, dropped, _ := scan.Blocks(c, 1)
	if len(count) == 0 || len(dropped) == 0 {
		t.Fatalf("Blocks = %v, %v", count, dropped)
	}
	other, rest, _ := scan.Blocks(c, 1)
	facts, _ := scan.Facts(c, 1)
	others, _ := scan.Facts(c, 1)
	pages, _ := scan.Pages(c, 1)
	morePages, _ := scan.Pages(c, 1)
	was := fmt.Sprint(other, rest, factsText(others), pagesText(morePages))
	spoilInts(count)
	spoilInts(dropped)
	spoilFacts(facts)
	spoilPages(pages)
	if fmt.Sprint(other, rest, factsText(others), pagesText(morePages)) != was {
		t.Error("an answer shares memory with another one")
	}
	if asked(c) != want {
		t.Error("an answer shares memory with the chip")
	}
}

// Not even two lists of one answer share any.
func TestListsOfOneAnswer(t *testing.T) {
	c := full(t)
	count, dropped, _ := scan.Blocks(c, 1)
	was := fmt.Sprint(dropped)
	spoilInts(count)
	if fmt.Sprint(dropped) != was {
		t.Error("both lists of Blocks share memory")
	}
	count, dropped, _ = scan.Blocks(c, 1)
	was = fmt.Sprint(count)
	spoilInts(dropped)
	if fmt.Sprint(count) != was {
		t.Error("both lists of Blocks share memory")
	}
	want, _ := scan.Facts(c, 1)
	for i := range want {
		l, _ := scan.Facts(c, 1)
		spoilBytes(l[i].Value)
		l[i].Value = want[i].Value
		if factsText(l) != factsText(want) {
			t.Errorf("the value of the fact %d is another one's too: %s", i, factsText(l))
		}
	}
	wantListsOfPages(t, c)
}

func wantListsOfPages(t *testing.T, c *nand.Chip) {
	t.Helper()
	want, _ := scan.Pages(c, 4)
	if len(want) != 2 {
		t.Fatalf("Pages(_, 4) = %s", pagesText(want))
	}
	for i := range want {
		l, _ := scan.Pages(c, 4)
		spoilPages(l[i : i+1 : i+1])
		l[i] = want[i]
		if pagesText(l) != pagesText(want) {
			t.Errorf("the changes of the page %d are another one's too: %s", i, pagesText(l))
		}
		for j := range want[i].Changes {
			l, _ := scan.Pages(c, 4)
			spoilBytes(l[i].Changes[j].Value)
			l[i].Changes[j].Value = want[i].Changes[j].Value
			if pagesText(l) != pagesText(want) {
				t.Errorf("the value %d of the page %d is another one's too: %s", j, i, pagesText(l))
			}
		}
	}
}

// What is done to a chip later changes no answer, and the next one tells it.
func TestAnswersAheadOfDeeds(t *testing.T) {
	c := full(t)
	pages, _ := scan.Pages(c, 4)
	facts, _ := scan.Facts(c, 1)
	was := pagesText(pages) + factsText(facts)
	if e := c.Erase(4); e != api.OK {
		t.Fatalf("Erase: %d", e)
	}
	if pagesText(pages)+factsText(facts) != was {
		t.Error("an answer was changed by a deed of the chip")
	}
	wantPages(t, c, 4)
	wantBlocks(t, c, 1, list(1, 8), list(0))
}

// Fields to which the chapter gives no meaning have their zero values.
func TestFieldsWithoutMeaning(t *testing.T) {
	l, _ := scan.Pages(full(t), 1)
	if len(l) != 2 || len(l[0].Changes) != 0 || l[0].Drop != 10 || len(l[1].Changes) != 3 || l[1].Drop != 0 {
		t.Errorf("Pages(_, 1) = %s", pagesText(l))
	}
	for _, c := range l[1].Changes {
		if c.Gone {
			t.Errorf("a change is gone: %s", changesText(l[1].Changes))
		}
	}
	l, _ = scan.Pages(full(t), 4)
	if len(l) != 2 || len(l[1].Changes) != 2 || len(l[1].Changes[0].Value) != 0 || !l[1].Changes[0].Gone {
		t.Errorf("Pages(_, 4) = %s", pagesText(l))
	}
}

// What is answered hangs on the chip's bytes alone: not on what was asked ahead,
// which chip it is, what was done to it, or which blocks are bad.
func TestAnswersHangOnTheChipAlone(t *testing.T) {
	want := asked(full(t))
	c := full(t)
	for range 3 {
		if got := asked(c); got != want {
			t.Fatalf("asked again: %s\nnot %s", got, want)
		}
		asked(blankChip(t, small))
		scan.Facts(nil, 1)
		scan.Pages(&nand.Chip{}, 0)
	}
	next, e := c.Power()
	if e != api.OK || asked(next) != want {
		t.Errorf("asked of the next chip: %d, %s", e, asked(next))
	}
	for _, bad := range [][]int{nil, {0, 4, 8}, {1, 2, 3, 4, 5, 6, 7, 8, 9, 10, 0}} {
		other, e := nand.Load(odd, c.Bytes(), bad)
		if e != api.OK || asked(other) != want {
			t.Errorf("with the bad blocks %v: %d, %s", bad, e, asked(other))
		}
	}
}
