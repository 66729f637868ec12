package pack_test

import (
	"bytes"
	"fmt"
	"math"
	"slices"
	"strings"
	"testing"

	"carrack/api"
	"carrack/fact"
	"carrack/pack"
	"carrack/rec"
	"carrack/seal"
)

func node(ino int) api.Key {
	return api.Key{Ino: ino, What: api.OfNode}
}

func entry(ino int, name string) api.Key {
	return api.Key{Ino: ino, What: api.OfEntry, Name: name}
}

func piece(ino, chunk int) api.Key {
	return api.Key{Ino: ino, What: api.OfPiece, Chunk: chunk}
}

// has is a fact with a value of n bytes.
func has(k api.Key, n int) api.Fact {
	return api.Fact{Key: k, Value: counting(n)}
}

func facts(l ...api.Fact) []api.Fact { return l }

// counting answers n bytes, no two neighbours of which are the same.
func counting(n int) []byte {
	b := make([]byte, n)
	for i := range b {
		b[i] = byte(7*i + 3)
	}
	return b
}

// nodesOf are facts of the nodes 1, 2 and so on, with values of so many bytes.
func nodesOf(sizes ...int) []api.Fact {
	var l []api.Fact
	for i, n := range sizes {
		l = append(l, has(node(i+1), n))
	}
	return l
}

// times are n numbers that are all x.
func times(n, x int) []int {
	return slices.Repeat([]int{x}, n)
}

// ahead is how many bytes of a body a fact of the key takes beside its value,
// told by hand.
func ahead(k api.Key) int {
	switch k.What {
	case 1:
		return 5
	case 2:
		return 6 + len(k.Name)
	}
	return 6
}

// most is how many bytes the value of a fact has at most that fits into a page
// of the size alone.
func most(size int, k api.Key) int {
	return size - 5 - 1 - ahead(k)
}

// goodKeys are keys of each Kind, at the ends of each field, too, in order.
var goodKeys = []api.Key{
	node(1), entry(1, "a"), entry(1, "aa"), entry(1, "b"), piece(1, 0), piece(1, 7),
	node(5), entry(5, "-0.z"), entry(5, "abcdefghijkl"), piece(5, 1), piece(5, 2),
	node(255), node(256), node(258), entry(258, "..."), piece(258, 3),
	node(65535), entry(65535, "z"), piece(65535, 7),
}

// badKeys are wrong in just one field each, but for the last two.
var badKeys = []api.Key{
	node(0), node(-1), node(65536), node(math.MaxInt), node(math.MinInt),
	entry(0, "a"), entry(65536, "a"), entry(1, ""), entry(1, "."), entry(1, ".."), entry(1, "A"), entry(1, "a/b"),
	entry(1, "abcdefghijklm"), entry(1, strings.Repeat("a", 256)), entry(1, "\x00"), entry(1, "\xff"),
	piece(0, 0), piece(-1, 0), piece(65536, 0), piece(1, -1), piece(1, 8), piece(1, 256), piece(1, math.MaxInt), piece(1, math.MinInt),
	{Ino: 1}, {Ino: 1, What: 4}, {Ino: 1, What: 255},
	{Ino: 1, What: api.OfNode, Name: "a"}, {Ino: 1, What: api.OfNode, Chunk: 1}, {Ino: 1, What: api.OfNode, Chunk: -1},
	{Ino: 1, What: api.OfEntry, Name: "a", Chunk: 1}, {Ino: 1, What: api.OfPiece, Name: "a"},
	{}, {Ino: -1, What: 9, Name: "/", Chunk: -1},
}

// goodSizes and noSizes are sizes that pages have, and some that they have not.
var (
	goodSizes = []int{128, 129, 130, 191, 200, 255, 256}
	noSizes   = []int{math.MinInt, -256, -128, -1, 0, 1, 5, 6, 64, 126, 127, 257, 258, 512, 1<<16 + 128, math.MaxInt}
)

// inOrder sorts facts by what the layer below says of their keys.
func inOrder(l []api.Fact) []api.Fact {
	l = slices.Clone(l)
	slices.SortFunc(l, func(a, b api.Fact) int {
		if fact.Before(a.Key, b.Key) {
			return -1
		}
		return 1
	})
	return l
}

// text tells facts, nil and empty lists alike.
func text(l []api.Fact) string {
	s := ""
	for _, f := range l {
		s += fmt.Sprintf("%#v %x\n", f.Key, f.Value)
	}
	return s
}

// standing are the facts as changes that are not Gone.
func standing(l []api.Fact) []api.Change {
	var out []api.Change
	for _, f := range l {
		out = append(out, api.Change{Key: f.Key, Value: f.Value})
	}
	return out
}

// said are the facts that a page says, if it is one of changes that all stand.
func said(t *testing.T, size int, page []byte) []api.Fact {
	t.Helper()
	kind, body, e := seal.Get(page)
	if len(page) != size || kind != api.PageChanges || e != api.OK {
		t.Fatalf("a page of %d bytes, of the kind %d, %d; want %d, 2", len(page), kind, e, size)
	}
	l, e := rec.Get(body)
	if e != api.OK {
		t.Fatalf("the body %x: %d", body, e)
	}
	var out []api.Fact
	for _, c := range l {
		if c.Gone {
			t.Fatalf("%v is Gone", c.Key)
		}
		out = append(out, api.Fact{Key: c.Key, Value: c.Value})
	}
	return out
}

// wantPages: each page has so many of the facts, and Many is as many pages.
func wantPages(t *testing.T, size int, l []api.Fact, each ...int) {
	t.Helper()
	pages, e := pack.Pages(size, l)
	if e != api.OK || len(pages) != len(each) {
		t.Fatalf("Pages(%d, %s): %d pages, %d; want %d", size, text(l), len(pages), e, each)
	}
	if n, e := pack.Many(size, l); n != len(each) || e != api.OK {
		t.Errorf("Many(%d, %s) = %d, %d; want %d", size, text(l), n, e, len(each))
	}
	left := l
	for i, n := range each {
		want, e := rec.Put(size, standing(left[:n]))
		if !bytes.Equal(pages[i], want) || e != api.OK {
			t.Fatalf("Pages(%d, %s): the page %d says %s; want %s", size, text(l), i, text(said(t, size, pages[i])), text(left[:n]))
		}
		left = left[n:]
	}
	if len(left) > 0 {
		t.Errorf("%d facts are in none of the pages %d", len(left), each)
	}
}

func wantNone(t *testing.T, size int, l []api.Fact, e api.Errno) {
	t.Helper()
	if pages, got := pack.Pages(size, l); len(pages) != 0 || got != e {
		t.Errorf("Pages(%d, %s) = %x, %d; want %d", size, text(l), pages, got, e)
	}
	if n, got := pack.Many(size, l); n != 0 || got != e {
		t.Errorf("Many(%d, %s) = %d, %d; want %d", size, text(l), n, got, e)
	}
}

// wantErrArg: of all sizes, also of such as are none.
func wantErrArg(t *testing.T, l []api.Fact) {
	t.Helper()
	for _, size := range []int{127, 128, 200, 256, 257} {
		wantNone(t, size, l, api.ErrArg)
	}
}

func wantCost(t *testing.T, f api.Fact, n int) {
	t.Helper()
	if got := pack.Cost(f); got != n {
		t.Errorf("Cost(%#v with %d bytes) = %d; want %d", f.Key, len(f.Value), got, n)
	}
}

// The chapter's examples.

func TestExamples(t *testing.T) {
	f := api.Fact{Key: node(1), Value: []byte{1, 1, 0, 0}}
	wantPages(t, 128, nil)
	wantCost(t, f, 9)
	wantPages(t, 128, facts(f), 1)
}

// P13.1: ErrArg.

// A size is none whatever the facts are: also of none, of such as fit nowhere,
// and of such as may not be.
func TestNoSize(t *testing.T) {
	for _, size := range noSizes {
		for _, l := range [][]api.Fact{
			nil, {}, nodesOf(1), nodesOf(100, 100), nodesOf(times(50, 3)...),
			nodesOf(255), nodesOf(256), nodesOf(0), facts(has(node(0), 1)), facts(has(node(2), 1), has(node(1), 1)),
		} {
			wantNone(t, size, l, api.ErrArg)
		}
	}
}

func TestEachSize(t *testing.T) {
	for size := -1; size < 400; size++ {
		if size < 128 || size > 256 {
			wantNone(t, size, nil, api.ErrArg)
			wantNone(t, size, nodesOf(1, 4), api.ErrArg)
			continue
		}
		wantPages(t, size, nil)
		wantPages(t, size, []api.Fact{})
		wantPages(t, size, nodesOf(1, 4), 2)
	}
}

// A key that may not be stands where its fields would put it among others, so
// that nothing else is wrong.
func TestBadKeys(t *testing.T) {
	few := nodesOf(1, 4, 90, 100)
	for _, k := range badKeys {
		for _, n := range []int{1, 4, 100} {
			wantErrArg(t, facts(has(k, n)))
			wantErrArg(t, inOrder(append(few, has(k, n))))
		}
		wantErrArg(t, append(slices.Clone(few), has(k, 4)))
		wantErrArg(t, append(facts(has(k, 4)), few...))
	}
}

// A key that may be is taken wherever its fields are at their ends.
func TestGoodKeys(t *testing.T) {
	var all []api.Fact
	for _, k := range goodKeys {
		for _, size := range goodSizes {
			wantPages(t, size, facts(has(k, 1)), 1)
		}
		all = append(all, has(k, 60))
	}
	// 60 bytes, and 18 ahead of them at most: 3 go into a page of 256 always.
	wantPages(t, 256, all, 3, 3, 3, 3, 3, 3, 1)
}

// notInOrder are pairs of keys that may be, of which the first stands behind the
// second by one field alone, or beside it.
var notInOrder = [][2]api.Key{
	{node(2), node(1)}, {node(256), node(255)}, {entry(2, "a"), entry(1, "a")}, {piece(2, 0), piece(1, 7)},
	{entry(1, "a"), node(1)}, {piece(1, 0), node(1)}, {piece(1, 0), entry(1, "z")},
	{entry(1, "b"), entry(1, "a")}, {entry(1, "aa"), entry(1, "a")}, {entry(1, "b"), entry(1, "aa")}, {entry(1, "a"), entry(1, "-")},
	{piece(1, 1), piece(1, 0)}, {piece(1, 7), piece(1, 6)}, {node(2), piece(1, 7)},
	{node(1), node(1)}, {entry(5, "ab"), entry(5, "ab")}, {piece(65535, 7), piece(65535, 7)},
}

func TestNotInOrder(t *testing.T) {
	for _, p := range notInOrder {
		for _, n := range []int{1, 100} {
			wantErrArg(t, facts(has(p[0], n), has(p[1], n)))
			wantErrArg(t, facts(has(p[0], n), has(p[1], 101-n)))
			wantErrArg(t, facts(has(p[0], n), has(p[1], n), has(piece(65535, 7), 1)))
		}
		if p[0] != p[1] {
			wantPages(t, 256, facts(has(p[1], 1), has(p[0], 1)), 2)
		}
	}
}

// Two that are not in order are found wherever they stand in a long list: first,
// last, in one page, in two, and where another stands between them.
func TestNotInOrderAnywhere(t *testing.T) {
	for _, n := range []int{1, 40, 110} {
		l := nodesOf(times(20, n)...)
		for i := range len(l) - 1 {
			other := slices.Clone(l)
			other[i], other[i+1] = l[i+1], l[i]
			wantErrArg(t, other)
			other = slices.Clone(l)
			other[i+1] = l[i]
			wantErrArg(t, other)
			if i > 0 {
				other = slices.Clone(l)
				other[i+1] = l[i-1]
				wantErrArg(t, other)
			}
		}
		back := slices.Clone(l)
		slices.Reverse(back)
		wantErrArg(t, back)
	}
}

// badLengths are how many bytes no value has.
var badLengths = []int{0, 256, 257, 511, 512, 1000, 65536, 65537}

func TestBadValues(t *testing.T) {
	few := nodesOf(1, 4, 90, 100)
	for _, k := range []api.Key{node(1), entry(1, "ab"), piece(1, 7), node(9), piece(9, 0)} {
		for _, n := range badLengths {
			wantErrArg(t, facts(has(k, n)))
			if k != node(1) {
				wantErrArg(t, inOrder(append(few, has(k, n))))
			}
		}
		wantErrArg(t, facts(api.Fact{Key: k}))
		wantErrArg(t, facts(api.Fact{Key: k, Value: []byte{}}))
	}
}

// A value of one byte, of any, is one; of up to 255 bytes one is not ErrArg, but
// longer than any page has room for.
func TestGoodValues(t *testing.T) {
	for _, k := range goodKeys {
		for _, size := range goodSizes {
			wantPages(t, size, facts(has(k, 1)), 1)
			wantPages(t, size, facts(api.Fact{Key: k, Value: []byte{0}}), 1)
			wantPages(t, size, facts(api.Fact{Key: k, Value: bytes.Repeat([]byte{0xff}, 40)}), 1)
			wantNone(t, size, facts(has(k, 255)), api.ErrLimit)
			wantNone(t, size, facts(has(k, 256)), api.ErrArg)
		}
	}
}

// Of a fault of these and a fact that does not fit alone the fault is told,
// whichever stands first, however far apart they are.
func TestErrArgAheadOfErrLimit(t *testing.T) {
	long := has(node(100), 255)
	between := []api.Fact{}
	for i := range 30 {
		between = append(between, has(node(110+i), 50))
	}
	for _, bad := range [][]api.Fact{
		{has(node(0), 1)}, {has(node(65536), 1)}, {has(node(200), 0)}, {has(node(200), 256)}, {has(entry(200, ".."), 1)},
		{has(piece(200, 8), 1)}, {has(node(201), 1), has(node(200), 1)}, {has(node(200), 1), has(node(200), 1)},
	} {
		behind := append(slices.Clone(between), bad...)
		wantErrArg(t, append(facts(long), bad...))
		wantErrArg(t, append(facts(long), behind...))
	}
	for _, bad := range [][]api.Fact{
		{has(node(0), 1)}, {has(node(1), 0)}, {has(node(1), 256)}, {has(entry(1, ""), 1)}, {has(piece(1, 8), 1)},
		{has(node(2), 1), has(node(1), 1)}, {has(node(1), 1), has(node(1), 1)},
	} {
		wantErrArg(t, append(slices.Clone(bad), long))
		wantErrArg(t, append(slices.Clone(bad), append(facts(long), between...)...))
	}
	// A fault of the very fact that is too long, too.
	wantErrArg(t, facts(has(node(0), 255)))
	wantErrArg(t, facts(has(node(2), 255), has(node(2), 255)))
	wantErrArg(t, facts(has(node(2), 1), has(node(1), 255)))
	for _, size := range noSizes {
		wantNone(t, size, facts(long), api.ErrArg)
	}
}

// P13.1: ErrLimit.

// A fact fits that fills a page to its last byte; one byte more, and it does not,
// wherever it stands.
func TestOneAlone(t *testing.T) {
	for size := 128; size <= 256; size++ {
		for _, k := range goodKeys {
			n := most(size, k)
			wantCost(t, has(k, n), seal.Body(size)-1)
			wantPages(t, size, facts(has(k, n)), 1)
			wantNone(t, size, facts(has(k, n+1)), api.ErrLimit)
			wantNone(t, size, facts(has(k, 255)), api.ErrLimit)
		}
	}
}

func TestOneAloneAmongOthers(t *testing.T) {
	for _, size := range goodSizes {
		n := most(size, node(1))
		for _, others := range [][]int{times(4, 1), times(40, 1), times(4, n), {1, n, 1, n}, times(15, 60)} {
			for i := range len(others) + 1 {
				l := nodesOf(slices.Insert(slices.Clone(others), i, n)...)
				if many, e := pack.Many(size, l); many == 0 || e != api.OK {
					t.Errorf("Many(%d, %s) = %d, %d", size, text(l), many, e)
				}
				wantNone(t, size, nodesOf(slices.Insert(slices.Clone(others), i, n+1)...), api.ErrLimit)
			}
		}
	}
}

// Of names and of pieces there is as much less room as their keys are longer.
func TestOneAloneOfEachKind(t *testing.T) {
	for _, size := range goodSizes {
		for _, k := range goodKeys {
			ends := facts(has(node(1), 9), has(k, most(size, k)), has(piece(65535, 7), 9))
			switch k {
			case node(1):
				ends = ends[1:]
			case piece(65535, 7):
				ends = ends[:2]
			}
			wantPages(t, size, ends, times(len(ends), 1)...)
			i := slices.IndexFunc(ends, func(f api.Fact) bool { return f.Key == k })
			ends[i] = has(k, most(size, k)+1)
			wantNone(t, size, ends, api.ErrLimit)
		}
	}
}

// P13.1: the pages.

// 122 bytes of a page of 128 are left for facts: 13 nodes as they are take 117.
func TestFilledToTheLastByte(t *testing.T) {
	l := nodesOf(times(13, 4)...)
	wantPages(t, 128, l, 13)
	l[12] = has(node(13), 9)
	wantPages(t, 128, l, 13)
	l[12] = has(node(13), 10)
	wantPages(t, 128, l, 12, 1)
	wantPages(t, 128, nodesOf(times(14, 4)...), 13, 1)
	wantPages(t, 128, nodesOf(56, 56), 2)
	wantPages(t, 128, nodesOf(56, 57), 1, 1)
	wantPages(t, 128, nodesOf(57, 56), 1, 1)
	wantPages(t, 128, nodesOf(56, 56, 1), 2, 1)
	wantPages(t, 128, nodesOf(56, 56, 56, 56), 2, 2)
	wantPages(t, 128, nodesOf(1, 56, 56, 56), 2, 2)
}

// Two facts that fill a page of each size, the second of each Kind.
func TestFilledByTwo(t *testing.T) {
	for size := 128; size <= 256; size++ {
		for _, k := range goodKeys[1:] {
			n := most(size, k) - 25
			wantPages(t, size, facts(has(node(1), 20), has(k, n)), 2)
			wantPages(t, size, facts(has(node(1), 20), has(k, n+1)), 1, 1)
			wantPages(t, size, facts(has(node(1), 21), has(k, n)), 1, 1)
			wantPages(t, size, facts(has(node(1), 19), has(k, n)), 2)
		}
	}
}

// The shortest facts that there are: as many go into a page as 6 bytes do.
func TestMostInOnePage(t *testing.T) {
	for size := 128; size <= 256; size++ {
		n := (size - 6) / 6
		wantPages(t, size, nodesOf(times(n, 1)...), n)
		wantPages(t, size, nodesOf(times(n+1, 1)...), n, 1)
		wantPages(t, size, nodesOf(times(3*n+1, 1)...), n, n, n, 1)
	}
}

func TestManyPages(t *testing.T) {
	wantPages(t, 128, nodesOf(times(500, 117)...), times(500, 1)...)
	wantPages(t, 128, nodesOf(times(500, 56)...), times(250, 2)...)
	wantPages(t, 128, nodesOf(times(501, 56)...), append(times(250, 2), 1)...)
	wantPages(t, 256, nodesOf(times(4100, 1)...), times(100, 41)...)
	wantPages(t, 256, nodesOf(times(65535, 245)...)[65000:], times(535, 1)...)
}

// A later, shorter fact would fit into a page that is cut already: it stands in
// the next one all the same.
func TestLongAndShortByTurns(t *testing.T) {
	wantPages(t, 128, nodesOf(60, 90, 1, 60, 1), 1, 2, 2)
	wantPages(t, 128, nodesOf(100, 100, 1, 100, 1, 1), 1, 2, 3)
	wantPages(t, 128, nodesOf(100, 117, 1), 1, 1, 1)
	wantPages(t, 128, nodesOf(1, 117, 1, 117, 1, 1), 1, 1, 1, 1, 2)
	wantPages(t, 256, nodesOf(245, 1, 245, 1, 245), 1, 1, 1, 1, 1)
	wantPages(t, 256, nodesOf(200, 60, 1, 1, 200, 60), 1, 3, 1, 1)
	wantPages(t, 256, facts(has(node(1), 4), has(entry(1, "a"), 2), has(entry(1, "abcdefghijkl"), 2), has(node(2), 4),
		has(piece(2, 0), 200), has(piece(2, 1), 200), has(piece(2, 2), 7), has(node(3), 4)), 4, 1, 3)
}

// As it is of a tree of files: a root, names, nodes, pieces.
func TestPagesAsBytes(t *testing.T) {
	l := facts(
		api.Fact{Key: node(1), Value: []byte{1, 1, 0, 0}},
		api.Fact{Key: entry(1, "ab"), Value: []byte{2, 0}},
		api.Fact{Key: node(2), Value: []byte{2, 1, 100, 0}},
		api.Fact{Key: piece(2, 0), Value: bytes.Repeat([]byte{7}, 72)},
		api.Fact{Key: piece(2, 1), Value: bytes.Repeat([]byte{9}, 28)},
	)
	first := []byte{4, 1, 1, 0, 1, 4, 1, 1, 0, 0, 1, 1, 0, 2, 2, 'a', 'b', 2, 2, 0, 1, 2, 0, 1, 4, 2, 1, 100, 0, 1, 2, 0, 3, 0, 72}
	first = append(first, bytes.Repeat([]byte{7}, 72)...)
	second := append([]byte{1, 1, 2, 0, 3, 1, 28}, bytes.Repeat([]byte{9}, 28)...)
	pages, e := pack.Pages(128, l)
	if len(pages) != 2 || e != api.OK {
		t.Fatalf("Pages = %x, %d", pages, e)
	}
	for i, want := range [][]byte{first, second} {
		if kind, body, e := seal.Get(pages[i]); kind != 2 || !bytes.Equal(body, want) || e != api.OK {
			t.Errorf("the page %d: kind %d, body %x, %d; want 2, %x", i, kind, body, e, want)
		}
	}
	if n, e := pack.Many(128, l); n != 2 || e != api.OK {
		t.Errorf("Many = %d, %d", n, e)
	}
}

// P13.2: Cost.

func TestCostOfEachKind(t *testing.T) {
	for _, n := range []int{0, 1, 2, 4, 72, 200, 255, 256, 1000, 65536} {
		wantCost(t, has(node(1), n), 5+n)
		wantCost(t, has(node(65535), n), 5+n)
		wantCost(t, has(entry(1, "a"), n), 7+n)
		wantCost(t, has(entry(258, "ab"), n), 8+n)
		wantCost(t, has(entry(65535, "abcdefghijkl"), n), 18+n)
		wantCost(t, has(piece(1, 0), n), 6+n)
		wantCost(t, has(piece(65535, 7), n), 6+n)
	}
	wantCost(t, api.Fact{Key: node(1)}, 5)
	wantCost(t, api.Fact{Key: entry(1, "ab"), Value: []byte{}}, 8)
}

func TestCostOfNoKey(t *testing.T) {
	for _, k := range badKeys {
		for _, n := range []int{0, 1, 4, 255, 256} {
			wantCost(t, has(k, n), 0)
		}
		wantCost(t, api.Fact{Key: k}, 0)
	}
}

// It is what a change of it makes a body longer by.
func TestCostInABody(t *testing.T) {
	first := api.Change{Key: node(1), Value: []byte{1}}
	for _, k := range goodKeys {
		for _, n := range []int{1, 2, 100, 254, 255} {
			f := has(k, n)
			with := rec.Length(append([]api.Change{first}, standing(facts(f))...))
			wantCost(t, f, with-rec.Length([]api.Change{first}))
			wantCost(t, f, rec.Length(standing(facts(f)))-1)
		}
	}
}
