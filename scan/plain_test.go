package scan_test

import (
	"fmt"
	"math/rand"
	"slices"
	"sort"
	"testing"

	"carrack/api"
	"carrack/nand"
	"carrack/scan"
)

// plain reads the bytes of a chip by hand, bit by bit and number by number.
type plain struct {
	g   api.Geo
	all []byte
}

func (p plain) page(block, page int) []byte {
	at := (block*p.g.Pages + page) * p.g.Size
	return p.all[at : at+p.g.Size]
}

func plainNumber(b []byte) uint64 {
	n := uint64(0)
	for i := len(b) - 1; i >= 0; i-- {
		n = n*256 + uint64(b[i])
	}
	return n
}

// plainOpen answers the kind and the body of a page that is whole, or the kind 0.
func plainOpen(b []byte) (uint8, []byte) {
	zeros := 0
	for i := range 8 * (len(b) - 2) {
		if b[2+i/8]&(1<<(i%8)) == 0 {
			zeros++
		}
	}
	n := int(plainNumber(b[3:5]))
	if plainNumber(b[:2]) != uint64(zeros) || b[2] < 1 || b[2] > 7 || n > len(b)-5 {
		return 0, nil
	}
	for _, x := range b[5+n:] {
		if x != 0xff {
			return 0, nil
		}
	}
	return b[2], b[5 : 5+n]
}

// plainHead answers what a head says, if the page is one.
func plainHead(b []byte) (api.Head, bool) {
	kind, body := plainOpen(b)
	if kind != 1 || len(body) != 13 {
		return api.Head{}, false
	}
	h := api.Head{Kind: body[0], Era: uint32(plainNumber(body[1:5])), Seq: plainNumber(body[5:])}
	return h, h.Kind >= 1 && h.Kind <= 3 && h.Era > 0 && h.Seq > 0
}

// plainDrop answers the Seq of a page of a drop, or 0.
func plainDrop(b []byte) uint64 {
	kind, body := plainOpen(b)
	if kind != 3 || len(body) != 8 {
		return 0
	}
	return plainNumber(body)
}

func isNameByte(c byte) bool {
	return c >= 'a' && c <= 'z' || c >= '0' && c <= '9' || c == '.' || c == '-'
}

func isName(s string) bool {
	for i := range len(s) {
		if !isNameByte(s[i]) {
			return false
		}
	}
	return s != "" && s != "." && s != ".." && len(s) <= 12
}

// plainChange takes one change off the bytes: none, if they are none.
func plainChange(b []byte) (c api.Change, rest []byte, ok bool) {
	take := func(n int) []byte {
		if n > len(b) {
			panic("short")
		}
		out := b[:n]
		b = b[n:]
		return out
	}
	defer func() {
		if recover() != nil {
			ok = false
		}
	}()
	stands := take(1)[0]
	c.Key.Ino = int(plainNumber(take(2)))
	c.Key.What = take(1)[0]
	ok = stands <= 1 && c.Key.Ino > 0
	switch c.Key.What {
	case 1:
	case 2:
		c.Key.Name = string(take(int(take(1)[0])))
		ok = ok && isName(c.Key.Name)
	case 3:
		c.Key.Chunk = int(take(1)[0])
		ok = ok && c.Key.Chunk < 8
	default:
		ok = false
	}
	c.Gone = stands == 0
	if stands == 1 {
		c.Value = take(int(take(1)[0]))
		ok = ok && len(c.Value) > 0
	}
	return c, b, ok
}

// plainChanges answers the changes of a page of changes, or none.
func plainChanges(b []byte) []api.Change {
	kind, body := plainOpen(b)
	if kind != 2 || len(body) == 0 {
		return nil
	}
	n, rest := int(body[0]), body[1:]
	var l []api.Change
	for range n {
		c, left, ok := plainChange(rest)
		if !ok {
			return nil
		}
		l, rest = append(l, c), left
	}
	if len(rest) > 0 {
		return nil
	}
	return l
}

func (p plain) pages(block int) []api.Page {
	var l []api.Page
	for page := 1; page < p.g.Pages; page++ {
		b := p.page(block, page)
		said := api.Page{Page: page, Changes: plainChanges(b), Drop: plainDrop(b)}
		if len(said.Changes) > 0 || said.Drop > 0 {
			l = append(l, said)
		}
	}
	return l
}

// blocks answers those of the era that count, and the others: each is put where
// no other one that is left has a lesser Seq.
func (p plain) blocks(era uint32) (count, dropped []int) {
	seqs := map[int]uint64{}
	most := uint64(0)
	for block := range p.g.Blocks {
		h, ok := plainHead(p.page(block, 0))
		if !ok || h.Kind != 1 || h.Era != era {
			continue
		}
		seqs[block] = h.Seq
		for _, said := range p.pages(block) {
			most = max(most, said.Drop)
		}
	}
	for len(seqs) > 0 {
		next := -1
		for block := range p.g.Blocks {
			seq, ok := seqs[block]
			if ok && (next < 0 || seq < seqs[next]) {
				next = block
			}
		}
		if seqs[next] >= most {
			count = append(count, next)
		} else {
			dropped = append(dropped, next)
		}
		delete(seqs, next)
	}
	return count, dropped
}

func (p plain) facts(era uint32) []api.Fact {
	values := map[api.Key][]byte{}
	count, _ := p.blocks(era)
	for _, block := range count {
		for _, said := range p.pages(block) {
			for _, c := range said.Changes {
				delete(values, c.Key)
				if !c.Gone {
					values[c.Key] = c.Value
				}
			}
		}
	}
	var l []api.Fact
	for k, v := range values {
		l = append(l, api.Fact{Key: k, Value: v})
	}
	sort.Slice(l, func(i, j int) bool { return order(l[i].Key) < order(l[j].Key) })
	return l
}

// order is a text that stands ahead of another one's where the key does. A name
// ends with a byte that is less than all of a name's.
func order(k api.Key) string {
	return fmt.Sprintf("%05d %d %s\x00 %d", k.Ino, k.What, k.Name, k.Chunk)
}

// asPlain: the chip is read as the plain one reads it.
func asPlain(t *testing.T, c *nand.Chip) (counts, drops, facts int) {
	t.Helper()
	p := plain{c.Geo(), c.Bytes()}
	for era := uint32(1); era <= 3; era++ {
		count, dropped := p.blocks(era)
		wantBlocks(t, c, era, count, dropped)
		l := p.facts(era)
		wantFacts(t, c, era, l...)
		counts, drops, facts = counts+len(count), drops+len(dropped), facts+len(l)
	}
	for block := range p.g.Blocks {
		wantPages(t, c, block, p.pages(block)...)
	}
	return counts, drops, facts
}

func someKey(r *rand.Rand) api.Key {
	ino := 1 + r.Intn(5)
	switch r.Intn(3) {
	case 0:
		return node(ino)
	case 1:
		return entry(ino, []string{"a", "b", "ab", "-", "a.", "abcdefghijkl"}[r.Intn(6)])
	}
	return piece(ino, r.Intn(8))
}

func someChanges(r *rand.Rand) []api.Change {
	var l []api.Change
	for range 1 + r.Intn(5) {
		if r.Intn(3) == 0 {
			l = append(l, gone(someKey(r)))
		} else {
			l = append(l, set(someKey(r), byte(r.Intn(256)), byte(r.Intn(4))))
		}
	}
	return l
}

// somePage is a page of any kind, behind a head most often one of changes.
func somePage(r *rand.Rand, block, page int) put {
	switch r.Intn(14) {
	case 0:
		return drops(block, page, uint64(1+min(r.Intn(9), r.Intn(9))))
	case 1:
		return put{block, page, head(block, 1, 1, 1).b}
	case 2:
		return torn(says(block, page, someChanges(r)...))
	case 3:
		return torn(drops(block, page, uint64(1+r.Intn(9))))
	case 4:
		return someBody(r, block, page)
	case 5:
		b := make([]byte, odd.Size)
		r.Read(b)
		return put{block, page, b}
	case 6:
		return put{block, page, nil}
	}
	return says(block, page, someChanges(r)...)
}

// someBody is a page of any kind with any body, or with that of changes,
// one byte off.
func someBody(r *rand.Rand, block, page int) put {
	kind := uint8(1 + r.Intn(7))
	b := make([]byte, r.Intn(16))
	r.Read(b)
	if r.Intn(2) == 0 {
		_, was := plainOpen(says(block, page, someChanges(r)...).b)
		b = slices.Clone(was)
		b[r.Intn(len(b))] = byte(r.Intn(8))
		kind = api.PageChanges
	}
	return body(block, page, kind, b...)
}

// someFirst is a first page, most often a head's of the first format.
func someFirst(r *rand.Rand, block int) put {
	h := head(block, uint8(1+max(0, r.Intn(6)-3)), uint32(1+r.Intn(2)), uint64(1+r.Intn(9)))
	switch r.Intn(12) {
	case 0:
		return put{block, 0, nil}
	case 1:
		return torn(h)
	case 2:
		return somePage(r, block, 0)
	}
	return h
}

func someChip(t *testing.T, r *rand.Rand) *nand.Chip {
	var puts []put
	for block := range odd.Blocks {
		puts = append(puts, someFirst(r, block))
		for page := 1; page < odd.Pages; page++ {
			puts = append(puts, somePage(r, block, page))
		}
	}
	var bad []int
	for range r.Intn(4) {
		bad = append(bad, r.Intn(odd.Blocks))
	}
	return chipOf(t, odd, bad, puts...)
}

func TestAsThePlainOne(t *testing.T) {
	r := rand.New(rand.NewSource(12))
	counts, dropped, facts := 0, 0, 0
	for range 1500 {
		a, b, c := asPlain(t, someChip(t, r))
		counts, dropped, facts = counts+a, dropped+b, facts+c
		if t.Failed() {
			return
		}
	}
	if counts < 1500 || dropped < 1500 || facts < 1500 {
		t.Errorf("%d blocks counted, %d did not, %d facts were told: too few", counts, dropped, facts)
	}
}

// Bytes of no order at all, and a chip of pages with bytes off.
func TestAnyBytes(t *testing.T) {
	r := rand.New(rand.NewSource(13))
	for range 300 {
		b := someChip(t, r).Bytes()
		for range r.Intn(200) {
			b[r.Intn(len(b))] = byte(r.Intn(256))
		}
		c, e := nand.Load(odd, b, nil)
		if e != api.OK {
			t.Fatalf("Load: %d", e)
		}
		asPlain(t, c)
		r.Read(b)
		c, _ = nand.Load(odd, b, nil)
		asPlain(t, c)
		if l, e := scan.Facts(c, 1); len(l) > 0 || e != api.OK {
			t.Errorf("Facts of no order at all = %s, %d", factsText(l), e)
		}
		if t.Failed() {
			return
		}
	}
}
