package log_test

import (
	"bytes"
	"fmt"
	"math/rand"
	"slices"
	"sort"
	"testing"

	"carrack/api"
	"carrack/fact"
	"carrack/log"
	"carrack/nand"
	"carrack/pool"
	"carrack/rec"
)

// plainPage reads a page by hand: its kind and its body; 0 of one that is none.
func plainPage(b []byte) (byte, []byte) {
	noughts := 0
	for _, x := range b[2:] {
		for ; x != 0xff; x |= x + 1 {
			noughts++
		}
	}
	n := int(b[3]) + int(b[4])*256
	if noughts != int(b[0])+int(b[1])*256 || b[2] < 1 || b[2] > 7 || n > len(b)-5 || bytes.Count(b[5+n:], []byte{0xff}) != len(b)-5-n {
		return 0, nil
	}
	return b[2], b[5 : 5+n]
}

func plainNumber(b []byte) int {
	n := 0
	for i := len(b) - 1; i >= 0; i-- {
		n = n*256 + int(b[i])
	}
	return n
}

// plainBlock is a block of an era: its pages but for the head.
type plainBlock struct {
	seq   int
	pages [][]byte
}

// plainBlocks finds the blocks of the first format's era on a chip.
func plainBlocks(c *nand.Chip, era int) []plainBlock {
	g := c.Geo()
	var l []plainBlock
	for all := c.Bytes(); len(all) > 0; all = all[g.Pages*g.Size:] {
		kind, body := plainPage(all[:g.Size])
		if kind != 1 || len(body) != 13 || body[0] != 1 || plainNumber(body[1:5]) != era || plainNumber(body[5:]) == 0 {
			continue
		}
		b := plainBlock{seq: plainNumber(body[5:])}
		for i := 1; i < g.Pages; i++ {
			b.pages = append(b.pages, all[i*g.Size:(i+1)*g.Size])
		}
		l = append(l, b)
	}
	sort.SliceStable(l, func(i, j int) bool { return l[i].seq < l[j].seq })
	return l
}

// plainSays reads by hand what the era says: keys, as they are told, with values.
func plainSays(c *nand.Chip, era int) map[string]string {
	l := plainBlocks(c, era)
	least := 0
	for _, b := range l {
		for _, p := range b.pages {
			if kind, body := plainPage(p); kind == 3 && len(body) == 8 {
				least = max(least, plainNumber(body))
			}
		}
	}
	m := map[string]string{}
	for _, b := range l {
		for _, p := range b.pages {
			if kind, body := plainPage(p); kind == 2 && b.seq >= least {
				if l, e := rec.Get(body); e == api.OK {
					plainApply(m, l)
				}
			}
		}
	}
	return m
}

func plainApply(m map[string]string, l []api.Change) {
	for _, c := range l {
		if c.Gone {
			delete(m, fmt.Sprint(c.Key))
		} else {
			m[fmt.Sprint(c.Key)] = string(c.Value)
		}
	}
}

func plainOf(l []api.Fact) map[string]string {
	m := map[string]string{}
	for _, f := range l {
		m[fmt.Sprint(f.Key)] = string(f.Value)
	}
	return m
}

func plainText(m map[string]string) string { return fmt.Sprintf("%x", m) }

func randomKey(r *rand.Rand) api.Key {
	switch r.Intn(4) {
	case 0:
		return entry(1+r.Intn(2), string(rune('a'+r.Intn(3))))
	case 1:
		return piece(1+r.Intn(2), r.Intn(3))
	}
	return node(1 + r.Intn(4))
}

func randomChanges(r *rand.Rand) []api.Change {
	var l []api.Change
	for range 1 + r.Intn(3) {
		if r.Intn(3) == 0 {
			l = append(l, gone(randomKey(r)))
			continue
		}
		v := make([]byte, 1+r.Intn(30))
		r.Read(v)
		l = append(l, set(randomKey(r), v...))
	}
	return l
}

// randomHits are a cut, failures, or none.
func randomHits(r *rand.Rand, fails int) []api.Hit {
	var l []api.Hit
	for range r.Intn(3) {
		mask := make([]byte, r.Intn(300))
		r.Read(mask)
		switch r.Intn(3) {
		case 0:
			mask = bytes.Repeat([]byte{0xff}, len(mask))
		case 1:
			for i := range mask {
				mask[i] |= byte(r.Intn(256)) | byte(r.Intn(256))
			}
		}
		l = append(l, api.Hit{After: r.Intn(12), Mask: mask, Fails: r.Intn(100) < fails})
	}
	return l
}

// acted is a log, and what its facts should be.
type acted struct {
	l *log.Log
	m map[string]string
}

// check: the log's facts are those that it should have, and that are read by hand.
func (a *acted) check(t *testing.T, name string) {
	t.Helper()
	want := plainText(a.m)
	if got := plainText(plainOf(a.l.Facts())); got != want {
		t.Fatalf("%s: Facts() = %s; want %s", name, got, want)
	}
	if got := plainText(plainSays(a.l.Chip(), 1)); got != want {
		t.Fatalf("%s: the chip says %s; want %s, of\n%s", name, got, want, told(a.l.Chip(), 1))
	}
}

// act puts, or tidies, once; where it is cut the log is opened anew, and has what
// it had ahead, or behind.
func (a *acted) act(t *testing.T, r *rand.Rand, name string) {
	t.Helper()
	l := randomChanges(r)
	e := api.OK
	if r.Intn(8) == 0 {
		l = nil
		e = a.l.Tidy(a.l.Blanks() + r.Intn(3))
	} else {
		e = a.l.Put(l)
	}
	behind := map[string]string{}
	for k, v := range a.m {
		behind[k] = v
	}
	plainApply(behind, l)
	switch e {
	case api.OK:
		a.m = behind
	case api.ErrFull:
	case api.ErrDead:
		o, e := log.Open(power(t, a.l.Chip()), 1)
		if e != api.OK {
			t.Fatalf("%s: Open = %d", name, e)
		}
		a.l = o
		if plainText(plainOf(o.Facts())) == plainText(behind) {
			a.m = behind
		}
	default:
		t.Fatalf("%s: %d", name, e)
	}
	a.check(t, name)
}

func TestPlainScripts(t *testing.T) {
	t.Parallel()
	for _, g := range []api.Geo{small, odd, middle, wide} {
		for seed := range int64(40) {
			r := rand.New(rand.NewSource(seed))
			a := &acted{made(t, g), map[string]string{}}
			for i := range 120 {
				if r.Intn(2) == 0 {
					hit(t, a.l.Chip(), randomHits(r, int(seed)%5)...)
				}
				a.act(t, r, fmt.Sprint(g, ", seed ", seed, ", act ", i))
			}
		}
	}
}

// randomPage is a page of any kind, or what is none.
func randomPage(r *rand.Rand) []byte {
	var b []byte
	switch r.Intn(8) {
	case 0:
		b, _ = rec.PutDrop(128, uint64(1+r.Intn(12)))
	case 1:
		b, _ = pool.PutHead(128, api.Head{Kind: 1, Era: 1, Seq: uint64(1 + r.Intn(12))})
	case 2:
		b = make([]byte, 128)
		r.Read(b)
	case 3:
		b = bytes.Repeat([]byte{0xff}, 128)
	default:
		b, _ = rec.Put(128, randomChanges(r))
	}
	if r.Intn(6) == 0 {
		b[r.Intn(128)] |= byte(r.Intn(256))
	}
	return b
}

// randomChip has blocks of a few eras and Seqs, some of the same one, some bad, of
// which the pages are anything.
func randomChip(t *testing.T, r *rand.Rand) *nand.Chip {
	t.Helper()
	g := api.Geo{Blocks: 8 + r.Intn(6), Pages: 4 + r.Intn(3), Size: 128, Spares: r.Intn(3)}
	all := bytes.Repeat([]byte{0xff}, g.Blocks*g.Pages*g.Size)
	var bad []int
	for i := range g.Blocks {
		if r.Intn(8) == 0 {
			bad = append(bad, i)
		}
		if r.Intn(3) == 0 {
			continue
		}
		kinds := []uint8{1, 1, 1, 1, 2, 3}
		head, _ := pool.PutHead(128, api.Head{Kind: kinds[r.Intn(6)], Era: uint32(1 + r.Intn(5)/4), Seq: uint64(1 + r.Intn(12))})
		if r.Intn(8) == 0 {
			head = randomPage(r)
		}
		copy(all[i*g.Pages*g.Size:], head)
		for j := range r.Intn(g.Pages) {
			copy(all[(i*g.Pages+1+j)*g.Size:], randomPage(r))
		}
	}
	c, e := nand.Load(g, all, bad)
	if e != api.OK {
		t.Fatalf("Load: %d", e)
	}
	return c
}

// Of chips of whatever pages: each call ends, and what is put is there, or not.
func TestPlainLoadedChips(t *testing.T) {
	t.Parallel()
	opened, oks := 0, 0
	for seed := range int64(500) {
		r := rand.New(rand.NewSource(seed))
		c := randomChip(t, r)
		name := fmt.Sprint("seed ", seed)
		own := plainBlocks(c, 1)
		l, e := log.Open(c, 1)
		if (e == api.OK) != (len(own) > 0) || (l != nil) != (e == api.OK) || e != api.OK && e != api.ErrCorrupt {
			t.Fatalf("%s: Open = %d of %d blocks", name, e, len(own))
		}
		if e != api.OK {
			continue
		}
		opened++
		a := &acted{l, plainSays(c, 1)}
		a.check(t, name)
		for i := range 20 {
			if r.Intn(2) == 0 {
				hit(t, a.l.Chip(), randomHits(r, 5)...)
			}
			was := plainText(a.m)
			a.act(t, r, fmt.Sprint(name, ", act ", i))
			if plainText(a.m) != was {
				oks++
			}
		}
	}
	if opened < 300 || oks < 1500 {
		t.Errorf("%d were opened, %d times the facts were changed", opened, oks)
	}
}

// Of chips of any bytes each call ends.
func TestAnyBytes(t *testing.T) {
	for seed := range int64(60) {
		r := rand.New(rand.NewSource(seed))
		b := make([]byte, 8*4*128)
		r.Read(b)
		if seed%3 == 0 {
			head, _ := pool.PutHead(128, api.Head{Kind: 1, Era: 1, Seq: uint64(r.Int31())})
			copy(b[int(seed)%8*4*128:], head)
		}
		c, e := nand.Load(small, b, slices.Repeat([]int{int(seed) % 8}, int(seed)%2))
		if e != api.OK {
			t.Fatalf("Load: %d", e)
		}
		if l, e := log.Open(c, 1); (e == api.OK) != (seed%3 == 0) || (l != nil) != (e == api.OK) {
			t.Fatalf("Open = %d", e)
		} else if e == api.OK {
			wantFacts(t, l, nil)
			put(t, l, set(node(1), 1))
			wantFacts(t, l, facts(is(node(1), 1)))
			continue
		}
		l := makeOn(t, c, 1)
		puts(t, l, 60)
		wantFacts(t, l, fact.Apply(nil, changes(set(node(1), 59, 1))))
	}
}
