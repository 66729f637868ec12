package log_test

import (
	"bytes"
	"fmt"
	"math"
	"slices"
	"testing"

	"carrack/api"
	"carrack/fact"
	"carrack/log"
	"carrack/nand"
	"carrack/pool"
	"carrack/scan"
	"carrack/seal"
)

// P14.2: what is refused.

// nodes are so many changes, of as many nodes, that are gone.
func nodes(n int) []api.Change {
	var l []api.Change
	for i := range n {
		l = append(l, gone(node(1+i)))
	}
	return l
}

// noChanges are lists that are none of changes.
func noChanges() [][]api.Change {
	l := [][]api.Change{
		nil, {}, nodes(256), nodes(1000),
		{{Key: node(1)}}, {set(node(1), make([]byte, 256)...)}, {{Key: node(1), Value: []byte{1}, Gone: true}},
		{set(node(1), 1), {Key: node(2)}}, {gone(node(1)), set(node(1), make([]byte, 300)...)},
		// A change that may not be is told ahead of a list that is too long.
		append(nodes(100), set(node(0), 1)),
	}
	for _, k := range []api.Key{
		{}, {Ino: 1}, {What: 1}, {Ino: 65536, What: 1}, {Ino: -1, What: 1}, {Ino: 1, What: 4}, {Ino: 1, What: 1, Name: "a"},
		{Ino: 1, What: 1, Chunk: 1}, {Ino: 1, What: 2}, {Ino: 1, What: 2, Name: ".."}, {Ino: 1, What: 2, Name: "A"},
		{Ino: 1, What: 2, Name: "abcdefghijklm"}, {Ino: 1, What: 2, Name: "a", Chunk: 1}, {Ino: 1, What: 3, Chunk: 8},
		{Ino: 1, What: 3, Chunk: -1}, {Ino: 1, What: 3, Name: "a"}, {Ino: math.MaxInt, What: 3},
	} {
		l = append(l, changes(gone(k)), changes(set(k, 1)), changes(set(node(1), 2), set(k, 1)))
	}
	return l
}

// tooLong are lists of changes that do not fit into a page of 128 bytes.
func tooLong() [][]api.Change {
	return [][]api.Change{
		nodes(31), nodes(255), {set(node(1), make([]byte, 118)...)}, {set(node(1), make([]byte, 255)...)},
		{set(entry(1, "a"), make([]byte, 116)...)}, {gone(node(2)), set(node(1), make([]byte, 114)...)},
	}
}

func wantRefused(t *testing.T, l *log.Log, c []api.Change, want api.Errno) {
	t.Helper()
	was := l.Facts()
	wantNothingDone(t, l.Chip(), func() {
		if e := l.Put(c); e != want {
			t.Errorf("Put(%v) = %d; want %d", c, e, want)
		}
	})
	if !same(l.Facts(), was) {
		t.Errorf("Put(%v): the facts are %s", c, factsText(l.Facts()))
	}
}

func TestPutOfNoChanges(t *testing.T) {
	l := made(t, small)
	for _, facts := range [][]api.Fact{nil, facts(is(node(1), 7))} {
		for _, c := range noChanges() {
			wantRefused(t, l, c, api.ErrArg)
		}
		for _, c := range tooLong() {
			wantRefused(t, l, c, api.ErrLimit)
		}
		wantFacts(t, l, facts)
		put(t, l, set(node(1), 7))
	}
}

// That a list is none is told ahead of there being no room.
func TestPutOfNoChangesWithoutRoom(t *testing.T) {
	l := made(t, small)
	for i := 1; l.Put(changes(set(node(i), long(1)...))) == api.OK; i++ {
	}
	for _, c := range noChanges() {
		wantRefused(t, l, c, api.ErrArg)
	}
	for _, c := range tooLong() {
		wantRefused(t, l, c, api.ErrLimit)
	}
}

// P14.2: the facts behind it.

func TestPut(t *testing.T) {
	for _, g := range []api.Geo{small, odd, middle, large} {
		l := made(t, g)
		var m []api.Fact
		for i, c := range [][]api.Change{
			{set(node(1), 5)}, {set(node(1), 6), set(node(3), 7)}, {gone(node(1))}, {gone(node(9))},
			{set(node(2), 1), gone(node(2))}, {gone(node(2)), set(node(2), 2)}, {set(node(2), 2)}, {set(node(4), 1), set(node(4), 2)},
			{set(entry(1, "b"), 2, 0), set(entry(1, "a"), 3, 0)}, {set(piece(3, 7), 1, 2, 3), set(piece(3, 0), 9)},
			nodes(30), {set(node(1), bytes.Repeat([]byte{3}, 117)...)}, {set(node(65535), 0, 0, 0)},
		} {
			put(t, l, c...)
			m = fact.Apply(m, c)
			if i == 1 && !same(m, facts(is(node(1), 6), is(node(3), 7))) {
				t.Fatalf("the facts are %s", factsText(m))
			}
			wantFacts(t, l, m)
		}
	}
}

// As many changes as fit into a page.
func TestPutOfLongChanges(t *testing.T) {
	l := made(t, large)
	put(t, l, nodes(62)...)
	put(t, l, set(node(1), make([]byte, 245)...))
	wantRefused(t, l, changes(set(node(1), make([]byte, 246)...)), api.ErrLimit)
	wantRefused(t, l, nodes(63), api.ErrLimit)
	wantFacts(t, l, facts(is(node(1), make([]byte, 245)...)))
}

// It goes on for ever, in each block, whichever log puts.
func TestPutOnAndOn(t *testing.T) {
	for _, g := range []api.Geo{small, odd, middle} {
		l := made(t, g)
		var m []api.Fact
		for i := range 400 {
			c := changes(set(node(1+i%5), byte(i), byte(i/256)))
			if i%3 == 0 {
				c = changes(gone(node(1+i%4)), set(piece(9, i%3), byte(i)))
			}
			put(t, l, c...)
			m = fact.Apply(m, c)
			wantFacts(t, l, m)
			if i%7 == 0 {
				l = open(t, power(t, l.Chip()), 1)
			}
		}
	}
}

// What others have on the chip stays.
func TestPutBesideOthers(t *testing.T) {
	c := blankChip(t, middle)
	p, _ := pool.Scan(c)
	other := makeOn(t, c, 2)
	put(t, other, set(node(1), 77))
	p, _ = pool.Scan(c)
	block, _ := p.Take(api.KindTree, 1)
	page, _ := seal.Put(128, api.PageLeaf, []byte("others'"))
	if e := c.Program(block, 3, page); e != api.OK {
		t.Fatalf("Program: %d", e)
	}
	l := makeOn(t, c, 1)
	puts(t, l, 500)
	if e := l.Tidy(13); e != api.OK {
		t.Errorf("Tidy: %d", e)
	}
	if b, e := c.Read(block, 3); !bytes.Equal(b, page) || e != api.OK {
		t.Errorf("the page of another's block is %x", b)
	}
	if got, _ := scan.Facts(c, 2); !same(got, facts(is(node(1), 77))) {
		t.Errorf("the facts of another era are %s", factsText(got))
	}
	wantFacts(t, l, facts(is(node(1), 243, 1)))
}

// A page that is torn stays behind; what is put comes behind it.
func TestPutBehindATornPage(t *testing.T) {
	for _, mask := range [][]byte{{1}, {0x0f}, {0, 0xff}, {0xfe}} {
		l := made(t, middle)
		put(t, l, set(node(1), 1))
		var m []api.Fact = facts(is(node(1), 1))
		for i := range 40 {
			hit(t, l.Chip(), api.Hit{Mask: mask})
			if e := l.Put(changes(set(node(2), byte(i)))); e != api.ErrDead {
				t.Fatalf("Put: %d", e)
			}
			l = open(t, power(t, l.Chip()), 1)
			wantFacts(t, l, m)
			if i%3 == 0 {
				put(t, l, set(node(3), byte(i)))
				m = fact.Apply(m, changes(set(node(3), byte(i))))
				wantFacts(t, l, m)
			}
		}
	}
}

// P14.2: what fails.

// masks are such that leave none, some and all of the bits; of a block they leave
// the head alone, or all but the head, too.
func masks(g api.Geo) [][]byte {
	block := g.Pages * g.Size
	head := make([]byte, block)
	copy(head, bytes.Repeat([]byte{0xff}, g.Size))
	rest := bytes.Repeat([]byte{0xff}, block)
	copy(rest, make([]byte, g.Size))
	return [][]byte{nil, {0xff}, {0x0f}, {0xff, 0xff, 0xfe}, head, rest, slices.Concat(make([]byte, g.Size*2), []byte{0xff})}
}

// changing is the Put number i of a series in which few keys change.
func changing(i int) []api.Change {
	if i%5 == 3 {
		return changes(gone(node(1+i%3)), set(node(2+i%2), byte(i), 9))
	}
	return changes(set(node(1+i%3), byte(i), byte(i/256)))
}

// Whichever deed fails, and whatever it leaves: what is put is there.
func TestPutWhereADeedFails(t *testing.T) {
	t.Parallel()
	for _, g := range []api.Geo{middle, wide} {
		l := made(t, g)
		var m []api.Fact
		for i := range 120 {
			m = fact.Apply(m, changing(i))
			for _, mask := range masks(g) {
				for n := 0; ; n++ {
					c := power(t, l.Chip())
					o := open(t, c, 1)
					hit(t, c, api.Hit{After: n, Fails: true, Mask: mask})
					put(t, o, changing(i)...)
					deeds := c.Deeds()
					hit(t, c)
					if got, _ := scan.Facts(c, 1); !same(o.Facts(), m) || !same(got, m) {
						t.Fatalf("the Put %d, the deed %d fails: %s, scan: %s; want %s", i, n, factsText(o.Facts()), factsText(got), factsText(m))
					}
					put(t, o, set(node(9), 9))
					if deeds <= n {
						break
					}
				}
			}
			put(t, l, changing(i)...)
		}
	}
}

// Where no other block can be taken, what a log answers is what scan tells.
func TestPutWhereTheLastBlockFails(t *testing.T) {
	for _, mask := range masks(small) {
		for left := 1; left < 4; left++ {
			for n := range 8 {
				c := blankChip(t, small)
				takeAll(t, c, left)
				l := makeOn(t, c, 1)
				hit(t, c, slices.Repeat([]api.Hit{{Fails: true, Mask: mask}}, n)...)
				var m []api.Fact
				for i := range 12 {
					switch e := l.Put(changing(i)); e {
					case api.OK:
						m = fact.Apply(m, changing(i))
					case api.ErrFull:
					default:
						t.Fatalf("Put = %d", e)
					}
					wantFacts(t, l, m)
				}
			}
		}
	}
}

// P14.2: there is no room.

// fill puts facts of a page each, until there is no room, and answers them.
func fill(t *testing.T, l *log.Log) []api.Fact {
	t.Helper()
	var m []api.Fact
	for i := 1; ; i++ {
		c := changes(set(node(i), long(byte(i))...))
		e := l.Put(c)
		if e == api.ErrFull {
			wantFacts(t, l, m)
			return m
		}
		if e != api.OK {
			t.Fatalf("Put: %d", e)
		}
		m = fact.Apply(m, c)
		wantFacts(t, l, m)
	}
}

func TestPutWithoutRoom(t *testing.T) {
	for _, g := range []api.Geo{small, odd, middle, wide} {
		l := made(t, g)
		m := fill(t, l)
		if len(m) == 0 || len(m) >= g.Blocks*(g.Pages-1) {
			t.Fatalf("%v: there was room for %d facts", g, len(m))
		}
		// Again and again, also for one that was opened.
		for range 3 {
			if e := l.Put(changes(set(node(1000), long(1)...))); e != api.ErrFull {
				t.Fatalf("Put = %d", e)
			}
			wantFacts(t, l, m)
			l = open(t, power(t, l.Chip()), 1)
		}
		wantRoomForLess(t, l, m)
	}
}

// wantRoomForLess: there is room for what changes facts, and for what takes them
// away, one by one, and then for others.
func wantRoomForLess(t *testing.T, l *log.Log, m []api.Fact) {
	t.Helper()
	for i := range m {
		c := changes(set(m[i].Key, long(byte(100+i))...))
		put(t, l, c...)
		m = fact.Apply(m, c)
	}
	wantFacts(t, l, m)
	for len(m) > 0 {
		c := changes(gone(m[len(m)/2].Key))
		put(t, l, c...)
		m = fact.Apply(m, c)
		wantFacts(t, l, m)
	}
	puts(t, l, 200)
}

func TestPutBesideSoManyOthers(t *testing.T) {
	for left := 1; left < 8; left++ {
		c := blankChip(t, small)
		takeAll(t, c, left)
		l := makeOn(t, c, 1)
		m := fill(t, l)
		if left > 1 && len(m) == 0 {
			t.Errorf("%d blocks have no room", left)
		}
		wantRoomFor(t, l, m)
	}
}

// wantRoomFor: of what is put a fact that has no room changes nothing.
func wantRoomFor(t *testing.T, l *log.Log, m []api.Fact) {
	t.Helper()
	for i := range 5 {
		c := changes(gone(node(1)), set(node(500+i), long(1)...), set(node(2), 2))
		e := l.Put(c)
		if e == api.OK {
			m = fact.Apply(m, c)
		} else if e != api.ErrFull {
			t.Fatalf("Put = %d", e)
		}
		wantFacts(t, l, m)
	}
}

// P14.2: what is cut.

// cutEach lets copies of the chip be cut at the first deed of what is done to the
// log, at the second one, and so on, with each mask. What is left is handed to
// look, and whether it was cut.
func cutEach(t *testing.T, c *nand.Chip, masks [][]byte, do func(*log.Log) api.Errno, look func(*nand.Chip)) {
	t.Helper()
	for _, mask := range masks {
		for n := 0; ; n++ {
			next := power(t, c)
			l := open(t, next, 1)
			was := l.Facts()
			hit(t, next, api.Hit{After: n, Mask: mask})
			e := do(l)
			if e == api.OK {
				break
			}
			if e != api.ErrDead || l.Put(changes(set(node(1), 1))) != api.ErrDead || l.Sync() != api.ErrDead || l.Tidy(0) != api.ErrDead {
				t.Fatalf("cut at the deed %d: %d", n, e)
			}
			if !same(l.Facts(), was) {
				t.Fatalf("cut at the deed %d: the facts are %s", n, factsText(l.Facts()))
			}
			look(power(t, next))
		}
	}
}

// wantEither: the facts are those ahead, or those behind; opened, it goes on.
func wantEither(t *testing.T, c *nand.Chip, ahead, behind []api.Fact) (isBehind bool) {
	t.Helper()
	got, e := scan.Facts(c, 1)
	if e != api.OK || !same(got, ahead) && !same(got, behind) {
		t.Fatalf("cut: scan.Facts = %s, %d; not %s, not %s, of\n%s", factsText(got), e, factsText(ahead), factsText(behind), told(c, 1))
	}
	l := open(t, c, 1)
	if !same(l.Facts(), got) {
		t.Fatalf("opened: %s; scan tells %s", factsText(l.Facts()), factsText(got))
	}
	m := got
	for i := range 9 {
		put(t, l, changing(i)...)
		m = fact.Apply(m, changing(i))
	}
	if told, e := scan.Facts(c, 1); !same(l.Facts(), m) || !same(told, m) || e != api.OK {
		t.Fatalf("gone on: %s, scan tells %s; want %s", factsText(l.Facts()), factsText(told), factsText(m))
	}
	return same(got, behind)
}

// Each Put of a series that takes blocks, and tidies, is cut at each deed.
func TestCutPuts(t *testing.T) {
	t.Parallel()
	for _, g := range []api.Geo{small, {Blocks: 8, Pages: 5, Size: 131, Spares: 1}} {
		l := made(t, g)
		var m []api.Fact
		deeds := map[int]int{}
		for i := range 70 {
			behind := fact.Apply(m, changing(i))
			ahead, done, all := 0, 0, 0
			cutEach(t, l.Chip(), masks(g),
				func(l *log.Log) api.Errno { return l.Put(changing(i)) },
				func(c *nand.Chip) {
					all++
					if wantEither(t, c, m, behind) {
						done++
					} else {
						ahead++
					}
				})
			if all > 0 && (ahead == 0 || done == 0) && !same(m, behind) {
				t.Errorf("of the Put %d %d are ahead, %d behind", i, ahead, done)
			}
			deeds[all/len(masks(g))]++
			put(t, l, changing(i)...)
			m = behind
		}
		if deeds[1] == 0 || deeds[2] == 0 || len(deeds) < 3 {
			t.Errorf("%v: the Puts had %v deeds", g, deeds)
		}
	}
}

// One deed fails, and the power is cut at one behind it.
func TestCutBehindAFailure(t *testing.T) {
	t.Parallel()
	l := made(t, small)
	var m []api.Fact
	for i := range 50 {
		behind := fact.Apply(m, changing(i))
		for at := range 5 {
			for _, mask := range [][]byte{nil, {0xff}, {0x0f}} {
				for n := 0; ; n++ {
					c := power(t, l.Chip())
					o := open(t, c, 1)
					hit(t, c, api.Hit{After: at, Fails: true, Mask: mask}, api.Hit{After: n, Mask: mask})
					if e := o.Put(changing(i)); e == api.OK {
						break
					} else if e != api.ErrDead {
						t.Fatalf("the Put %d, the deed %d fails: %d", i, at, e)
					}
					wantEither(t, power(t, c), m, behind)
				}
			}
		}
		put(t, l, changing(i)...)
		m = behind
	}
}

// A Put of many changes is there as a whole, or not at all.
func TestCutPutOfManyChanges(t *testing.T) {
	l := made(t, small)
	for i := range 26 {
		put(t, l, set(node(1+i), byte(i)), gone(node(27-i)))
		ahead := l.Facts()
		c := append(nodes(13), set(node(14), 1), set(node(15), 2), set(node(30), 3))
		cutEach(t, l.Chip(), [][]byte{nil, {0xff}, {0x0f}},
			func(l *log.Log) api.Errno { return l.Put(c) },
			func(p *nand.Chip) { wantEither(t, p, ahead, fact.Apply(ahead, c)) })
	}
}

// Cut again and again, at whichever deed: it always goes on.
func TestCutAgainAndAgain(t *testing.T) {
	t.Parallel()
	for _, g := range []api.Geo{small, odd, middle} {
		for every := range 14 {
			l := made(t, g)
			var m []api.Fact
			for i := range 80 {
				c := l.Chip()
				hit(t, c, api.Hit{After: every, Mask: masks(g)[i%7]})
				behind := m
				for j := 0; ; j++ {
					behind = fact.Apply(m, changing(i+j))
					e := l.Put(changing(i + j))
					if e == api.ErrDead {
						break
					}
					if e != api.OK {
						t.Fatalf("%v: cut at the deed %d, %d times: Put = %d, of\n%s", g, every, i, e, told(c, 1))
					}
					m = behind
				}
				c = power(t, c)
				l = open(t, c, 1)
				if !same(l.Facts(), m) && !same(l.Facts(), behind) {
					t.Fatalf("%v: cut at the deed %d, %d times: %s; not %s, not %s", g, every, i, factsText(l.Facts()), factsText(m), factsText(behind))
				}
				m = l.Facts()
			}
			wantFacts(t, l, m)
		}
	}
}

// Make is cut at each deed, also where it takes a block of junk.
func TestCutMake(t *testing.T) {
	junk := blankChip(t, small)
	for i := range small.Blocks {
		if e := junk.Program(i, 2, make([]byte, 128)); e != api.OK {
			t.Fatalf("Program: %d", e)
		}
	}
	for i, c := range []*nand.Chip{blankChip(t, small), junk} {
		for _, mask := range masks(small) {
			for n := range 2 + i {
				next := power(t, c)
				hit(t, next, api.Hit{After: n, Mask: mask})
				wantNoLog(t, next, 1, log.Make, api.ErrDead)
				next = power(t, next)
				l, e := log.Open(next, 1)
				if e == api.ErrCorrupt && l == nil {
					l = makeOn(t, next, 1)
				} else if e != api.OK {
					t.Fatalf("Open: %d", e)
				}
				wantFacts(t, l, nil)
				puts(t, l, 60)
				wantFacts(t, l, facts(is(node(1), 59, 1)))
			}
		}
	}
}

// The chapter: a Seq below that of a drop does not count. On a chip that was
// loaded a drop may name one that no block has.
func TestDropOfASeqThatNoneHas(t *testing.T) {
	for _, drop := range []uint64{5, 6, 7, 8, 9, 30, 1000} {
		for _, bad := range [][]int{nil, {2}, {2, 4}} {
			c := blankChip(t, small)
			for i, b := range [][]byte{headPage(4), mustPut(t, 128, set(node(1), 1))} {
				c.Program(4, i, b)
			}
			for i, b := range [][]byte{headPage(6), mustPut(t, 128, set(node(2), 2)), mustDrop(t, 128, drop)} {
				c.Program(2, i, b)
			}
			c, e := nand.Load(small, c.Bytes(), bad)
			if e != api.OK {
				t.Fatalf("Load: %d", e)
			}
			name := fmt.Sprint("a drop of ", drop, ", bad ", bad)
			// The next block has the Seq 7.
			want := api.OK
			if drop > 7 {
				want = api.ErrFull
			}
			if e := open(t, power(t, c), 1).Put(changing(0)); e != want {
				t.Errorf("%s: Put = %d; want %d", name, e, want)
			}
			wantPutOrFull(t, c, name)
		}
	}
}

func headPage(seq uint64) []byte {
	b, _ := pool.PutHead(128, api.Head{Kind: api.KindLog, Era: 1, Seq: seq})
	return b
}

// wantPutOrFull: a Put, wherever it is cut, is refused, or told by scan.
func wantPutOrFull(t *testing.T, c *nand.Chip, name string) {
	t.Helper()
	ahead, _ := scan.Facts(c, 1)
	l := open(t, power(t, c), 1)
	m := ahead
	for i := range 30 {
		e := l.Put(changing(i))
		if e == api.OK {
			m = fact.Apply(m, changing(i))
		} else if e != api.ErrFull {
			t.Fatalf("%s: Put = %d", name, e)
		}
		wantFacts(t, l, m)
	}
	for _, mask := range masks(small) {
		for n := range 9 {
			next := power(t, c)
			o := open(t, next, 1)
			hit(t, next, api.Hit{After: n, Mask: mask})
			o.Put(changing(0))
			got, _ := scan.Facts(power(t, next), 1)
			if !same(got, ahead) && !same(got, fact.Apply(ahead, changing(0))) {
				t.Fatalf("%s: cut at the deed %d: %s; ahead %s", name, n, factsText(got), factsText(ahead))
			}
			open(t, power(t, next), 1)
		}
	}
}
