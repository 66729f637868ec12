package log_test

import (
	"bytes"
	"fmt"
	"testing"

	"carrack/api"
	"carrack/fact"
	"carrack/log"
	"carrack/room"
)

// P14.4.

// series tells the changes of the Put number i, behind which there are at most so
// many facts as it was made for.
type series struct {
	name  string
	facts int
	put   func(i int) []api.Change
}

// fewKeys changes so many facts again and again, and takes some away.
func fewKeys(n int) series {
	return series{fmt.Sprint(n, " keys"), n, func(i int) []api.Change {
		if n == 0 {
			return changes(gone(node(1)))
		}
		k := node(1 + i*7%n)
		if i%5 == 4 {
			return changes(gone(k))
		}
		return changes(set(k, bytes.Repeat([]byte{byte(i)}, 1+i*13%100)...))
	}}
}

// fullPages changes so many facts, each of which fills a page.
func fullPages(n int) series {
	return series{fmt.Sprint(n, " facts of a page"), n, func(i int) []api.Change {
		return changes(set(node(1+i%n), bytes.Repeat([]byte{byte(i)}, 117)...))
	}}
}

// rolling adds a fact, and takes one away, of ever other keys, beside one that
// stays for ever: so each block says what no other one says.
func rolling(n int) series {
	return series{fmt.Sprint(n, " facts that roll"), n, func(i int) []api.Change {
		if i == 0 {
			return changes(set(node(1), 1))
		}
		if i < n {
			return changes(set(node(1+i), byte(i)))
		}
		at := i - n
		if at%2 == 0 {
			return changes(gone(node(2 + at/2)))
		}
		return changes(set(node(1+n+at/2), byte(i)))
	}}
}

func allSeries(g api.Geo) []series {
	most := room.Cap(g)
	l := []series{fewKeys(0), fewKeys(1), fewKeys(3), fewKeys(most), fullPages(1), fullPages(most)}
	if most >= 5 {
		l = append(l, rolling(3), rolling(5), rolling(most))
	}
	return l
}

// wantRoom puts a series so often, and wants no failure.
func wantRoom(t *testing.T, l *log.Log, s series, often int) []api.Fact {
	t.Helper()
	var m []api.Fact
	for i := range often {
		if e := l.Put(s.put(i)); e != api.OK {
			t.Fatalf("%v, %s: the Put %d = %d, of\n%s", l.Chip().Geo(), s.name, i, e, told(l.Chip(), 1))
		}
		m = fact.Apply(m, s.put(i))
		if len(m) > s.facts {
			t.Fatalf("%s: %d facts", s.name, len(m))
		}
	}
	wantFacts(t, l, m)
	return m
}

var roomy = []api.Geo{
	{Blocks: 16, Pages: 8, Size: 128}, middle, wide, {Blocks: 8, Pages: 16, Size: 128}, {Blocks: 64, Pages: 4, Size: 128, Spares: 4},
}

func TestRoomWithoutFailures(t *testing.T) {
	t.Parallel()
	for _, g := range roomy {
		for _, s := range allSeries(g) {
			m := wantRoom(t, made(t, g), s, 1000)
			if len(m) == 0 && s.facts > 1 {
				t.Errorf("%s: no fact is left", s.name)
			}
		}
	}
}

// A great many on the greatest chip.
func TestRoomOfALargeChip(t *testing.T) {
	t.Parallel()
	most := room.Cap(large)
	s := series{"all facts", most, func(i int) []api.Change {
		return changes(set(node(1+i*7%most), bytes.Repeat([]byte{byte(i)}, 245)...))
	}}
	l := made(t, large)
	m := wantRoom(t, l, s, 2500)
	n := large.Blocks - room.Want(large, most)
	if e := l.Tidy(n); len(m) != most || e != api.OK || l.Blanks() < n {
		t.Errorf("%d facts, Tidy(%d) = %d", len(m), n, e)
	}
}

// As many blocks fail as leave Want: one behind the other from some deed on, or
// with deeds between, whatever of their bits is left.
func TestRoomWithFailures(t *testing.T) {
	t.Parallel()
	for _, g := range roomy[:4] {
		for _, s := range allSeries(g) {
			fails := g.Blocks - room.Want(g, s.facts)
			for at := 0; at < 180; at += 11 {
				for gap := range 2 {
					l := made(t, g)
					hit(t, l.Chip(), failing(at, gap, fails)...)
					wantRoom(t, l, s, 180)
				}
			}
		}
	}
}

// failing are so many failures, the first one behind at deeds, the others each
// behind gap ones.
func failing(at, gap, fails int) []api.Hit {
	var l []api.Hit
	for i := range fails {
		h := api.Hit{After: gap, Fails: true}
		if i == 0 {
			h.After = at
		}
		switch (at + i) % 3 {
		case 0:
			h.Mask = []byte{0xff}
		case 1:
			h.Mask = []byte{0x55, 0xff}
		}
		l = append(l, h)
	}
	return l
}

// Blocks that are bad from the beginning on.
func TestRoomWithBadBlocks(t *testing.T) {
	for _, g := range roomy {
		for _, s := range allSeries(g) {
			fails := g.Blocks - room.Want(g, s.facts)
			c := blankChip(t, g)
			hit(t, c, failing(0, 0, fails)...)
			for i := range fails {
				if e := c.Erase(i * 5 % g.Blocks); e != api.ErrBad {
					c.Erase(i)
				}
			}
			hit(t, c)
			wantRoom(t, makeOn(t, c, 1), s, 600)
		}
	}
}

// As many more blocks than Want as are asked for: Tidy has room.
func TestRoomToTidy(t *testing.T) {
	t.Parallel()
	for _, g := range roomy {
		for _, s := range allSeries(g) {
			l := made(t, g)
			var m []api.Fact
			for i := range 300 {
				put(t, l, s.put(i)...)
				m = fact.Apply(m, s.put(i))
				if i%29 != 0 {
					continue
				}
				for n := 0; n <= g.Blocks-room.Want(g, len(m)); n++ {
					o := l
					if i%2 == 0 {
						o = open(t, power(t, l.Chip()), 1)
					}
					if e := o.Tidy(n); e != api.OK || o.Blanks() < n {
						t.Fatalf("%s: Tidy(%d) = %d, %d are blank", s.name, n, e, o.Blanks())
					}
				}
			}
			wantFacts(t, l, m)
		}
	}
}

// The same while blocks fail.
func TestRoomToTidyWithFailures(t *testing.T) {
	t.Parallel()
	for _, g := range roomy[:3] {
		for _, s := range allSeries(g) {
			most := g.Blocks - room.Want(g, s.facts)
			for n := 0; n <= most; n++ {
				for at := 0; at < 25; at += 3 {
					l := made(t, g)
					for i := range 60 {
						put(t, l, s.put(i)...)
					}
					m := l.Facts()
					hit(t, l.Chip(), failing(at, at%2, most-n)...)
					for range 3 {
						if e := l.Tidy(n); e != api.OK || l.Blanks() < n {
							t.Fatalf("%s: Tidy(%d) = %d, %d are blank", s.name, n, e, l.Blanks())
						}
						if e := l.Put(s.put(60)); e != api.OK {
							t.Fatalf("%s: Put = %d", s.name, e)
						}
					}
					wantFacts(t, l, fact.Apply(m, s.put(60)))
				}
			}
		}
	}
}

// Cuts take no room.
func TestRoomBehindCuts(t *testing.T) {
	t.Parallel()
	for _, g := range roomy {
		for _, s := range allSeries(g) {
			for every := range 10 {
				l := made(t, g)
				c := l.Chip()
				var m []api.Fact
				for i := range 120 {
					hit(t, c, api.Hit{After: every + i%5, Mask: masks(g)[i%7]})
					e := l.Put(s.put(i))
					if e == api.ErrDead {
						c = power(t, c)
						l = open(t, c, 1)
						e = l.Put(s.put(i))
					}
					if e != api.OK {
						t.Fatalf("%v, %s: the Put %d = %d, of\n%s", g, s.name, i, e, told(c, 1))
					}
					m = fact.Apply(m, s.put(i))
				}
				wantFacts(t, l, m)
			}
		}
	}
}
