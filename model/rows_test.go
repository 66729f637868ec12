package model_test

import (
	"bytes"
	"math"
	"math/rand"
	"slices"
	"strings"
	"testing"

	"carrack/api"
	"carrack/model"
)

// P7.3: long rows of any acts, held against the plain tree.

// wantAsPlain: the act answers as on the plain tree, which becomes what the tree
// is, and the tree is right behind it.
func wantAsPlain(t *testing.T, tree api.Tree, p *plain, a api.Act) (api.Tree, api.Answer) {
	t.Helper()
	was := text(tree)
	want := p.do(a)
	behind, got := model.Do(tree, a)
	if !sameAnswer(got, want) || text(behind) != text(p.tree()) {
		t.Fatalf("Do(%s, %+v) = %s, %+v; want %s, %+v", was, a, text(behind), got, text(p.tree()), want)
	}
	if !model.Right(behind) || !plainRight(behind) {
		t.Fatalf("Do(%s, %+v) = %s, which is not right", was, a, text(behind))
	}
	if changed := text(behind) != was; changed == model.Same(tree, behind) || changed && (got.E != api.OK || !model.Changes(a.Kind)) {
		t.Fatalf("Do(%s, %+v) = %s, %+v: Same %v, Changes %v", was, a, text(behind), got, model.Same(tree, behind), model.Changes(a.Kind))
	}
	return behind, got
}

// anyName answers one of a few names, so that acts meet one another.
func anyName(r *rand.Rand) string {
	return []string{"a", "b", "c", "a.b", "abcdefghijkl"}[r.Intn(5)]
}

// anyPath answers a path that is there, or one beside or under such a one, or,
// seldom, one that may not be.
func anyPath(r *rand.Rand, p *plain) string {
	there := p.paths()
	s := there[r.Intn(len(there))]
	switch n := r.Intn(20); {
	case n == 0:
		return []string{"", "a", "/", "//", s + "/", s + "/..", s + "/A", manyNames(7), manyNames(6) + "/..", s + manyNames(6)}[r.Intn(10)]
	case n == 1:
		s += "/" + anyName(r) + "/" + anyName(r)
	case n < 12:
		s += "/" + anyName(r)
	}
	if s == "" {
		return "/"
	}
	return s
}

// anyCount answers a number of bytes: mostly one that a file may have.
func anyCount(r *rand.Rand, p *plain) int {
	most := 8 * p.piece
	switch r.Intn(12) {
	case 0:
		return []int{-1, math.MinInt, math.MaxInt, most + 1}[r.Intn(4)]
	case 1:
		return most
	case 2:
		return most - 1
	case 3, 4:
		return 0
	}
	return r.Intn(most + 1)
}

func anyBytes(r *rand.Rand, most int) []byte {
	b := make([]byte, r.Intn(r.Intn(most+2)+1))
	for i := range b {
		b[i] = "\x00\x00xyz\xff"[r.Intn(6)]
	}
	return b
}

// anyAct answers an act of a kind of the list, and fields for all of it.
func anyAct(r *rand.Rand, p *plain, kinds []api.ActKind) api.Act {
	return api.Act{
		Kind: kinds[r.Intn(len(kinds))], Path: anyPath(r, p), To: anyPath(r, p),
		At: anyCount(r, p), N: anyCount(r, p), Bytes: anyBytes(r, 8*p.piece),
	}
}

// moods are lists of kinds: of some a tree grows up to its limits, of others it
// is worn down again.
var moods = [][]api.ActKind{
	{0, 1, 2, 3, 4, 5, 6, 7, 8, 9, 10, 11, 12, 13, 255},
	{api.ActMkdir, api.ActMkdir, api.ActCreate, api.ActRename},
	{api.ActCreate, api.ActLink, api.ActLink, api.ActLink, api.ActMkdir},
	{api.ActUnlink, api.ActRmdir, api.ActRename, api.ActUnlink, api.ActCreate},
	{api.ActWrite, api.ActCut, api.ActRead, api.ActLink, api.ActStat},
	{api.ActRename, api.ActRename, api.ActRename, api.ActMkdir, api.ActList},
}

// errorsOf are the answers that each kind of acts has on a tree that is right.
var errorsOf = map[api.ActKind][]api.Errno{
	api.NoAct:       {api.ErrArg},
	api.ActMkdir:    {api.OK, api.ErrArg, api.ErrLimit, api.ErrNone, api.ErrKind, api.ErrTwice},
	api.ActCreate:   {api.OK, api.ErrArg, api.ErrLimit, api.ErrNone, api.ErrKind, api.ErrTwice},
	api.ActRmdir:    {api.OK, api.ErrArg, api.ErrLimit, api.ErrNone, api.ErrKind, api.ErrBusy},
	api.ActLink:     {api.OK, api.ErrArg, api.ErrLimit, api.ErrNone, api.ErrKind, api.ErrTwice},
	api.ActUnlink:   {api.OK, api.ErrArg, api.ErrLimit, api.ErrNone, api.ErrKind},
	api.ActRename:   {api.OK, api.ErrArg, api.ErrLimit, api.ErrNone, api.ErrKind, api.ErrBusy},
	api.ActWrite:    {api.OK, api.ErrArg, api.ErrLimit, api.ErrNone, api.ErrKind},
	api.ActCut:      {api.OK, api.ErrArg, api.ErrLimit, api.ErrNone, api.ErrKind},
	api.ActRead:     {api.OK, api.ErrArg, api.ErrLimit, api.ErrNone, api.ErrKind},
	api.ActStat:     {api.OK, api.ErrArg, api.ErrLimit, api.ErrNone, api.ErrKind},
	api.ActList:     {api.OK, api.ErrArg, api.ErrLimit, api.ErrNone, api.ErrKind},
	api.ActSync:     {api.ErrArg},
	api.ActSync + 1: {api.ErrArg},
	255:             {api.ErrArg},
}

func TestLongRows(t *testing.T) {
	type had struct {
		kind api.ActKind
		e    api.Errno
	}
	times := map[had]int{}
	mostNodes, mostLinks, mostDepth, mostBytes := 0, 0, 0, 0
	for seed := range 16 {
		r := rand.New(rand.NewSource(int64(seed)))
		p := newPlain([]int{1, 2, 3, 255}[seed%4])
		tree := fresh(t, p.piece)
		mood := 0
		for i := range 1000 {
			if i%100 == 0 {
				mood = r.Intn(len(moods))
			}
			a := anyAct(r, p, moods[mood])
			behind, answer := wantAsPlain(t, tree, p, a)
			tree = behind
			times[had{a.Kind, answer.E}]++
		}
		for s, ino := range p.at {
			mostLinks = max(mostLinks, p.links(ino))
			mostDepth = max(mostDepth, strings.Count(s, "/"))
			if len(p.bytes[ino]) == 8*p.piece {
				mostBytes++
			}
		}
		mostNodes = max(mostNodes, len(tree.Nodes))
	}
	// The rows go as far as it goes, and meet all that there is to meet.
	if mostNodes != api.MaxNodes || mostLinks != api.MaxLinks || mostDepth != api.MaxDepth || mostBytes == 0 {
		t.Errorf("the rows come to %d nodes, %d links, %d names, %d full files", mostNodes, mostLinks, mostDepth, mostBytes)
	}
	for kind, l := range errorsOf {
		for _, e := range l {
			if times[had{kind, e}] == 0 {
				t.Errorf("no act of the kind %d answers %d", kind, e)
			}
			delete(times, had{kind, e})
		}
	}
	for x, n := range times {
		t.Errorf("%d acts of the kind %d answer %d", n, x.kind, x.e)
	}
}

// All rows of three of these acts, on a tree that has a bit of all.
func TestAllShortRows(t *testing.T) {
	acts := []api.Act{
		mkdir("/a"), mkdir("/a/a"), create("/a"), create("/b"), create("/a/b"), rmdir("/a"), rmdir("/a/a"), unlink("/a"), unlink("/b"), unlink("/a/b"),
		link("/b", "/a"), link("/b", "/a/b"), link("/a/b", "/c"), rename("/a", "/b"), rename("/b", "/a"), rename("/a", "/c"), rename("/b", "/a/b"), rename("/a/b", "/b"), rename("/a/a", "/a"), rename("/a/a", "/b"),
		write("/b", 0, "xy"), write("/b", 3, "z"), write("/a/b", 1, "uvw"), cut("/b", 1), cut("/a/b", 3),
	}
	start := fresh(t, 1, mkdir("/a"), create("/b"), write("/b", 1, "b"))
	for _, first := range acts {
		p1 := plainOf(start)
		one, _ := wantAsPlain(t, start, p1, first)
		for _, second := range acts {
			p2 := plainOf(one)
			two, _ := wantAsPlain(t, one, p2, second)
			for _, third := range acts {
				wantAsPlain(t, two, plainOf(two), third)
			}
		}
	}
}

// The plain tree of a tree is that tree.
func TestPlainComesBack(t *testing.T) {
	for what, change := range stillRight {
		tree := whole()
		change(&tree)
		if got := plainOf(tree).tree(); text(got) != text(tree) {
			t.Errorf("%s: %s; want %s", what, text(got), text(tree))
		}
	}
}

// P7.3: what is written is read, what is renamed is what it was, and nothing
// else has changed.

// grown answers trees that grew by rows of acts.
func grown(t *testing.T, seed int64) (api.Tree, *plain, *rand.Rand) {
	t.Helper()
	r := rand.New(rand.NewSource(seed))
	p := newPlain(r.Intn(4) + 1)
	tree := fresh(t, p.piece)
	for i := range 150 {
		tree, _ = wantAsPlain(t, tree, p, anyAct(r, p, moods[[]int{1, 2, 4}[i%3]]))
	}
	return tree, p, r
}

// seen tells what acts answer of the path.
func seen(t *testing.T, tree api.Tree, s string) (stat, list, read api.Answer) {
	t.Helper()
	if s == "" {
		s = "/"
	}
	_, stat = model.Do(tree, api.Act{Kind: api.ActStat, Path: s})
	_, list = model.Do(tree, api.Act{Kind: api.ActList, Path: s})
	_, read = model.Do(tree, api.Act{Kind: api.ActRead, Path: s, N: math.MaxInt})
	return stat, list, read
}

// wantSeen: of the path there is told on the one tree what is told of the other
// path on the other one.
func wantSeen(t *testing.T, a api.Act, one api.Tree, s string, other api.Tree, to string) {
	t.Helper()
	stat, list, read := seen(t, one, s)
	statToo, listToo, readToo := seen(t, other, to)
	if !sameAnswer(stat, statToo) || !sameAnswer(list, listToo) || !sameAnswer(read, readToo) {
		t.Errorf("behind %+v: %q was %+v, %+v, %+v; %q is %+v, %+v, %+v", a, s, stat, list, read, to, statToo, listToo, readToo)
	}
}

func TestWrittenIsRead(t *testing.T) {
	writes := 0
	for seed := range int64(60) {
		tree, p, r := grown(t, seed)
		for _, s := range p.paths() {
			ino := p.at[s]
			if p.kind[ino] != api.File {
				continue
			}
			writes++
			at := r.Intn(8 * p.piece)
			b := anyBytes(r, 8*p.piece-at-1)
			a := write(s, at, string(b))
			behind := after(t, tree, a)
			for _, other := range p.paths() {
				if p.at[other] != ino {
					wantSeen(t, a, tree, other, behind, other)
					continue
				}
				wantRead(t, behind, other, at, len(b), string(b))
				wantAround(t, tree, behind, other, at, len(b))
			}
		}
	}
	if writes < 300 {
		t.Errorf("just %d writes", writes)
	}
}

// wantAround: but for the n bytes from at on the file has the bytes that it had,
// and what lies behind its end is 0.
func wantAround(t *testing.T, tree, behind api.Tree, s string, at, n int) {
	t.Helper()
	_, had := model.Do(tree, read(s, 0, math.MaxInt))
	_, has := model.Do(behind, read(s, 0, math.MaxInt))
	size := len(had.Bytes)
	if n > 0 {
		size = max(size, at+n)
	}
	if len(has.Bytes) != size {
		t.Errorf("behind a write of %d bytes at %d: %q has %d bytes; want %d", n, at, s, len(has.Bytes), size)
		return
	}
	for i, x := range has.Bytes {
		switch {
		case i >= at && i < at+n:
		case i < len(had.Bytes) && x != had.Bytes[i], i >= len(had.Bytes) && x != 0:
			t.Errorf("behind a write of %d bytes at %d: %q has %d at %d", n, at, s, x, i)
		}
	}
}

func TestRenamedIsWhatItWas(t *testing.T) {
	renames := map[uint8]int{}
	for seed := range int64(40) {
		tree, p, _ := grown(t, seed)
		for _, s := range p.paths() {
			for _, to := range append(p.paths(), "/new", "/a/new", "/b/c/new") {
				if s == "" || to == "" || p.at[s] == p.at[to] {
					continue
				}
				a := rename(s, to)
				behind, answer := model.Do(tree, a)
				if answer.E == api.OK {
					renames[p.kind[p.at[s]]]++
					wantRenamed(t, tree, behind, p, s, to)
				}
			}
		}
	}
	if renames[api.Dir] < 200 || renames[api.File] < 1000 {
		t.Errorf("just %d directories and %d files are renamed", renames[api.Dir], renames[api.File])
	}
}

// wantRenamed: what was at the one path, and under it, is at the other one, and
// under that; all else is where it was, but that a file whose name was taken
// away has a link less, and directories have other names.
func wantRenamed(t *testing.T, tree, behind api.Tree, p *plain, s, to string) {
	t.Helper()
	a := rename(s, to)
	q := plainOf(behind)
	if want := len(p.at) - btoi(p.at[to] != 0); len(q.at) != want {
		t.Errorf("behind %+v: %d paths; want %d", a, len(q.at), want)
	}
	for _, x := range p.paths() {
		switch {
		case x == s || strings.HasPrefix(x, s+"/"):
			wantSeen(t, a, tree, x, behind, to+x[len(s):])
			if _, there := q.at[x]; there {
				t.Errorf("behind %+v: %q is there still", a, x)
			}
		case x == to:
		case p.kind[p.at[x]] == api.Dir:
			wantDirectory(t, a, p, q, x)
		case p.at[x] == p.at[to]:
			if q.at[x] != p.at[x] || q.links(q.at[x]) != p.links(p.at[x])-1 || !bytes.Equal(q.bytes[q.at[x]], p.bytes[p.at[x]]) {
				t.Errorf("behind %+v: %q is not what it was but for a link", a, x)
			}
		default:
			wantSeen(t, a, tree, x, behind, x)
		}
	}
}

// wantDirectory: a directory that stays has the names that it had, but for the
// one that went and the one that came.
func wantDirectory(t *testing.T, a api.Act, p, q *plain, x string) {
	t.Helper()
	var want []string
	for _, name := range p.names(x) {
		if x+"/"+name != a.Path {
			want = append(want, name)
		}
	}
	if name, ok := strings.CutPrefix(a.To, x+"/"); ok && !strings.Contains(name, "/") && !slices.Contains(want, name) {
		want = append(want, name)
	}
	slices.Sort(want)
	if q.at[x] != p.at[x] || q.kind[q.at[x]] != api.Dir || !slices.Equal(q.names(x), want) {
		t.Errorf("behind %+v: %q has the names %q; want %q", a, x, q.names(x), want)
	}
}

func btoi(b bool) int {
	if b {
		return 1
	}
	return 0
}

// A link shares the bytes of its file, whichever of its names they go through.
func TestLinksShareBytes(t *testing.T) {
	tree := fresh(t, 2, mkdir("/d"), create("/a"), write("/a", 0, "bytes"), link("/a", "/d/b"), link("/d/b", "/c"))
	names := []string{"/a", "/d/b", "/c"}
	for i, s := range names {
		x := string(rune('X' + i))
		tree = after(t, tree, write(s, 2*i, x))
		for _, other := range names {
			wantRead(t, tree, other, 2*i, 1, x)
		}
	}
	tree = after(t, tree, cut("/c", 3))
	for _, s := range names {
		wantBytes(t, tree, s, "XyY")
	}
	tree = after(t, tree, unlink("/a"), rename("/c", "/d/c"), write("/d/c", 3, "!"))
	wantBytes(t, tree, "/d/b", "XyY!")
	wantBytes(t, tree, "/d/c", "XyY!")
}
