package woven_test

import (
	"bytes"
	"math/rand"
	"slices"
	"strings"
	"testing"

	"carrack/api"
	"carrack/fact"
	"carrack/model"
	"carrack/woven"
)

// P8.2: long rows of any acts.

// pathsOf answers the paths of all that is in the tree.
func pathsOf(t api.Tree) []string {
	l := []string{}
	var under func(s string, ino int)
	under = func(s string, ino int) {
		l = append(l, s)
		at := slices.IndexFunc(t.Nodes, func(n api.Inode) bool { return n.Ino == ino })
		for _, x := range t.Nodes[at].Names {
			under(s+"/"+x.Name, x.Ino)
		}
	}
	under("", 1)
	return l
}

func anyPath(r *rand.Rand, there []string) string {
	s := there[r.Intn(len(there))]
	if r.Intn(2) == 0 {
		s += "/" + []string{"a", "b", "c", ".d", "abcdefghijkl"}[r.Intn(5)]
	}
	if s == "" {
		return "/"
	}
	return s
}

// anyBytes answers bytes with many noughts among them.
func anyBytes(r *rand.Rand, most int) []byte {
	b := make([]byte, r.Intn(r.Intn(most+1)+1))
	for i := range b {
		b[i] = "\x00\x00\x00\x00xy\xff"[r.Intn(7)]
	}
	return b
}

// moods are lists of kinds: of some a tree grows up to its limits, of others it
// is worn down again.
var moods = [][]api.ActKind{
	{1, 2, 3, 4, 5, 6, 7, 8, 9, 10, 11, 12},
	{api.ActMkdir, api.ActMkdir, api.ActCreate, api.ActRename},
	{api.ActCreate, api.ActLink, api.ActLink, api.ActMkdir, api.ActWrite},
	{api.ActUnlink, api.ActRmdir, api.ActRename, api.ActUnlink, api.ActCreate},
	{api.ActWrite, api.ActCut, api.ActWrite, api.ActLink},
	{api.ActLink, api.ActLink, api.ActLink, api.ActRename},
}

func anyAct(r *rand.Rand, t api.Tree, kinds []api.ActKind) api.Act {
	there := pathsOf(t)
	most := 8 * t.Piece
	return api.Act{
		Kind: kinds[r.Intn(len(kinds))], Path: anyPath(r, there), To: anyPath(r, there),
		At: r.Intn(most + 1), N: r.Intn(most + 1), Bytes: anyBytes(r, most),
	}
}

// rows goes long rows of acts, and shows each tree that they make.
func rows(t *testing.T, seeds, acts int, look func(r *rand.Rand, tree api.Tree)) {
	t.Helper()
	for seed := range seeds {
		r := rand.New(rand.NewSource(int64(seed)))
		tree := fresh(t, []int{1, 2, 3, 32, 72, 255}[seed%6])
		mood := 0
		for i := range acts {
			if i%60 == 0 {
				mood = r.Intn(len(moods))
			}
			behind, a := model.Do(tree, anyAct(r, tree, moods[mood]))
			if a.E == api.OK && !model.Same(tree, behind) {
				look(r, behind)
			}
			tree = behind
		}
	}
}

func TestComesBack(t *testing.T) {
	trees, mostNodes, mostLinks, mostBytes, mostNames := 0, 0, 0, 0, 0
	rows(t, 24, 1200, func(_ *rand.Rand, tree api.Tree) {
		trees++
		l, e := woven.Facts(tree)
		if e != api.OK || factsText(l) != factsText(plainFacts(tree)) || woven.Count(tree) != len(l) {
			t.Fatalf("Facts(%s) = %s, %d; Count %d", text(tree), factsText(l), e, woven.Count(tree))
		}
		for i, f := range l {
			if !fact.MayKey(f.Key) || len(f.Value) == 0 || i > 0 && !fact.Before(l[i-1].Key, f.Key) {
				t.Fatalf("Facts(%s): the fact %d: %+v", text(tree), i, f)
			}
		}
		back, e := woven.Tree(l, tree.Piece)
		if e != api.OK || !model.Same(back, tree) || text(back) != text(tree) {
			t.Fatalf("Tree(%s, %d) = %s, %d; want %s", factsText(l), tree.Piece, text(back), e, text(tree))
		}
		mostNodes = max(mostNodes, len(tree.Nodes))
		for _, n := range tree.Nodes {
			mostLinks = max(mostLinks, n.Links)
			if len(n.Bytes) == 8*tree.Piece {
				mostBytes++
			}
		}
		for _, s := range pathsOf(tree) {
			mostNames = max(mostNames, strings.Count(s, "/"))
		}
	})
	// The rows go as far as it goes.
	if trees < 3000 || mostNodes != api.MaxNodes || mostLinks != api.MaxLinks || mostNames != api.MaxDepth || mostBytes == 0 {
		t.Errorf("%d trees come to %d nodes, %d links, %d names, %d full files", trees, mostNodes, mostLinks, mostNames, mostBytes)
	}
}

// Two trees have the same facts, if they are the same.
func TestFactsAreOneTrees(t *testing.T) {
	type seen struct{ tree, facts string }
	byFacts, byTree := map[string]seen{}, map[string]seen{}
	rows(t, 6, 600, func(_ *rand.Rand, tree api.Tree) {
		l, _ := woven.Facts(tree)
		x := seen{text(tree), factsText(l)}
		if y, ok := byTree[x.tree]; ok && y != x {
			t.Errorf("%s has the facts %s and %s", x.tree, x.facts, y.facts)
		}
		// How many bytes a piece has is not told by facts, so it is a part here.
		key := strings.Join([]string{x.tree[:strings.Index(x.tree, ";")+1], x.facts}, " ")
		if y, ok := byFacts[key]; ok && y != x {
			t.Errorf("%s are the facts of %s and %s", x.facts, x.tree, y.tree)
		}
		byFacts[key], byTree[x.tree] = x, x
	})
}

// Without the fact of a node or of an entry facts are no tree's; without that of
// a piece they are those of the tree with noughts there.
func TestWithoutOne(t *testing.T) {
	rows(t, 6, 400, func(r *rand.Rand, tree api.Tree) {
		if r.Intn(8) > 0 {
			return
		}
		l, _ := woven.Facts(tree)
		for i, f := range l {
			less := slices.Delete(facts(l...), i, i+1)
			if f.Key.What != api.OfPiece {
				wantNoTree(t, "without one", less, tree.Piece)
				continue
			}
			want, _ := woven.Tree(l, tree.Piece)
			at := slices.IndexFunc(want.Nodes, func(n api.Inode) bool { return n.Ino == f.Key.Ino })
			clear(want.Nodes[at].Bytes[f.Key.Chunk*tree.Piece:][:len(f.Value)])
			wantTree(t, less, want)
		}
	})
}

// wantAsPlain: Tree answers what the plain tree is, of which the facts are these
// if there is one. The bool says whether there is.
func wantAsPlain(t *testing.T, l []api.Fact, piece int) bool {
	t.Helper()
	want, ok := plainTree(l, piece)
	got, e := woven.Tree(l, piece)
	switch {
	case !ok && (e != api.ErrCorrupt || got.Piece != 0 || len(got.Nodes) != 0):
		t.Fatalf("Tree(%s, %d) = %s, %d; want ErrCorrupt", factsText(l), piece, text(got), e)
	case ok && (e != api.OK || text(got) != text(want)):
		t.Fatalf("Tree(%s, %d) = %s, %d; want %s", factsText(l), piece, text(got), e, text(want))
	case ok:
		if back, e := woven.Facts(got); e != api.OK || !fact.Same(back, l) || woven.Count(got) != len(l) {
			t.Fatalf("Facts(Tree(%s, %d)) = %s, %d", factsText(l), piece, factsText(back), e)
		}
	}
	return ok
}

// anyKey answers a key that may be, or, seldom, may not.
func anyKey(r *rand.Rand) api.Key {
	k := api.Key{Ino: r.Intn(8), What: uint8(1 + r.Intn(3))}
	switch k.What {
	case api.OfEntry:
		k.Name = []string{"a", "b", "c", "z", "."}[r.Intn(5)]
	case api.OfPiece:
		k.Chunk = r.Intn(9)
	}
	return k
}

// anyValue answers a value for a fact of that kind, mostly one that says
// something.
func anyValue(r *rand.Rand, what uint8, piece int) []byte {
	switch what {
	case api.OfNode:
		return []byte{byte(r.Intn(4)), byte(r.Intn(4)), byte(r.Intn(8*piece + 2)), 0}[:4-r.Intn(8)/7]
	case api.OfEntry:
		return []byte{byte(r.Intn(8)), 0, 0}[:2+r.Intn(8)/7]
	}
	return anyBytes(r, piece+1)
}

// deeds are changes of facts, some of which leave a tree's facts.
var deeds = []func(r *rand.Rand, l []api.Fact, piece int) []api.Fact{
	func(r *rand.Rand, l []api.Fact, _ int) []api.Fact {
		i := r.Intn(len(l))
		return slices.Delete(l, i, i+1)
	},
	func(r *rand.Rand, l []api.Fact, _ int) []api.Fact {
		i, j := r.Intn(len(l)), r.Intn(len(l))
		l[i], l[j] = l[j], l[i]
		return l
	},
	func(r *rand.Rand, l []api.Fact, _ int) []api.Fact {
		return slices.Insert(l, r.Intn(len(l)+1), l[r.Intn(len(l))])
	},
	func(r *rand.Rand, l []api.Fact, _ int) []api.Fact {
		f := &l[r.Intn(len(l))]
		if len(f.Value) > 0 {
			f.Value[r.Intn(len(f.Value))] += byte(1 - 2*r.Intn(2))
		}
		return l
	},
	func(r *rand.Rand, l []api.Fact, piece int) []api.Fact {
		f := &l[r.Intn(len(l))]
		f.Value = anyValue(r, f.Key.What, piece)
		return l
	},
	// A byte more, mostly of a piece, if there is one.
	func(r *rand.Rand, l []api.Fact, _ int) []api.Fact {
		i := r.Intn(len(l))
		for try := 0; try < 20 && l[i].Key.What != api.OfPiece; try++ {
			i = r.Intn(len(l))
		}
		l[i].Value = append(bytes.Clone(l[i].Value), "\x00x"[r.Intn(2)])
		return l
	},
	func(r *rand.Rand, l []api.Fact, _ int) []api.Fact {
		f := &l[r.Intn(len(l))]
		f.Key = anyKey(r)
		return l
	},
	func(r *rand.Rand, l []api.Fact, _ int) []api.Fact {
		f := &l[r.Intn(len(l))]
		if f.Key.What == api.OfEntry {
			f.Key.Name = anyKey(r).Name
		} else {
			f.Key.Chunk = r.Intn(8)
		}
		return l
	},
	// A fact more, put in where it belongs, or in place of the one of its key;
	// mostly of a node that is there.
	func(r *rand.Rand, l []api.Fact, piece int) []api.Fact {
		k := anyKey(r)
		if r.Intn(4) > 0 {
			k.Ino = l[r.Intn(len(l))].Key.Ino
		}
		at := slices.IndexFunc(l, func(f api.Fact) bool { return !fact.Before(f.Key, k) })
		if at < 0 {
			at = len(l)
		}
		if at < len(l) && l[at].Key == k {
			l[at].Value = anyValue(r, k.What, piece)
			return l
		}
		return slices.Insert(l, at, api.Fact{Key: k, Value: anyValue(r, k.What, piece)})
	},
	// One entry more, of one of the nodes, and a link more of it.
	func(r *rand.Rand, l []api.Fact, _ int) []api.Fact {
		i, j := r.Intn(len(l)), r.Intn(len(l))
		if l[i].Key.What != api.OfNode || l[j].Key.What != api.OfNode || len(l[j].Value) != 4 {
			return l
		}
		l[j].Value[1]++
		return slices.Insert(l, i+1, entryOf(l[i].Key.Ino, "-", l[j].Key.Ino))
	},
}

func TestChangedFacts(t *testing.T) {
	type tells struct {
		deed int
		ok   bool
	}
	times := map[tells]int{}
	for seed := range 5000 {
		r := rand.New(rand.NewSource(int64(seed)))
		tree := fresh(t, 1+r.Intn(4))
		for range r.Intn(20) {
			tree, _ = model.Do(tree, anyAct(r, tree, moods[[]int{1, 2, 2, 4}[r.Intn(4)]]))
		}
		start, _ := woven.Facts(tree)
		for deed, do := range deeds {
			l, ok := facts(start...), true
			for range 1 + r.Intn(2) {
				if len(l) > 0 {
					l = do(r, l, tree.Piece)
				}
				ok = wantAsPlain(t, l, tree.Piece)
			}
			times[tells{deed, ok}]++
			wantAsPlain(t, l, 1+r.Intn(4))
		}
	}
	for deed := range deeds {
		if times[tells{deed, false}] < 500 {
			t.Errorf("the deed %d leaves just %d lists that are no tree's", deed, times[tells{deed, false}])
		}
	}
	for _, deed := range []int{0, 1, 3, 4, 5, 6, 7, 8, 9} {
		if times[tells{deed, true}] < 20 {
			t.Errorf("the deed %d leaves just %d lists that are a tree's", deed, times[tells{deed, true}])
		}
	}
}

// All lists of some of these facts, which stand in order.
func TestAllLists(t *testing.T) {
	pool := []api.Fact{
		dirOf(1), entryOf(1, "a", 2), entryOf(1, "b", 2), entryOf(1, "c", 3), entryOf(1, "d", 3), entryOf(1, "e", 1),
		dirOf(2), nodeOf(2, 2, 1, 0), entryOf(2, "a", 3), entryOf(2, "b", 2),
		fileOf(3, 1, 1), fileOf(3, 2, 2), fileOf(3, 3, 17), pieceOf(3, 0, "x"), pieceOf(3, 0, "xy"), pieceOf(3, 1, "z"), entryOf(3, "a", 2),
	}
	trees := 0
	for bits := range 1 << len(pool) {
		var l []api.Fact
		for i, f := range pool {
			if bits>>i&1 != 0 {
				l = append(l, f)
			}
		}
		for piece := 1; piece <= 2; piece++ {
			if wantAsPlain(t, l, piece) {
				trees++
			}
		}
	}
	if trees < 20 {
		t.Errorf("just %d of the lists are a tree's", trees)
	}
}
