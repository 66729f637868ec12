package woven_test

import (
	"fmt"
	"math"
	"slices"
	"strings"
	"testing"

	"carrack/api"
	"carrack/woven"
)

// P8.1: Tree, of facts that are changed.

// facts answers a list of its own of facts that are of its own, too.
func facts(l ...api.Fact) []api.Fact {
	out := slices.Clone(l)
	for i := range out {
		out[i].Value = slices.Clone(out[i].Value)
	}
	return out
}

// at answers where the fact of that key stands.
func at(t *testing.T, l []api.Fact, k api.Key) int {
	t.Helper()
	i := slices.IndexFunc(l, func(f api.Fact) bool { return f.Key == k })
	if i < 0 {
		t.Fatalf("no fact of %+v", k)
	}
	return i
}

// with answers the facts of whole, and others, each in its place or in that of
// the one that has its key.
func with(more ...api.Fact) []api.Fact {
	l := wholeFacts()
	for _, f := range more {
		i := slices.IndexFunc(l, func(g api.Fact) bool { return g.Key == f.Key })
		if i >= 0 {
			l[i] = f
		} else {
			l = append(l, f)
		}
	}
	slices.SortStableFunc(l, func(a, b api.Fact) int {
		if a.Key.Ino != b.Key.Ino {
			return a.Key.Ino - b.Key.Ino
		}
		if a.Key.What != b.Key.What {
			return int(a.Key.What) - int(b.Key.What)
		}
		if a.Key.Name != b.Key.Name {
			return strings.Compare(a.Key.Name, b.Key.Name)
		}
		return a.Key.Chunk - b.Key.Chunk
	})
	return l
}

// without answers the facts of l but for those of these keys.
func without(l []api.Fact, keys ...api.Key) []api.Fact {
	return slices.DeleteFunc(l, func(f api.Fact) bool { return slices.Contains(keys, f.Key) })
}

func nodeKey(ino int) api.Key            { return api.Key{Ino: ino, What: api.OfNode} }
func entryKey(ino int, s string) api.Key { return api.Key{Ino: ino, What: api.OfEntry, Name: s} }
func pieceKey(ino, chunk int) api.Key    { return api.Key{Ino: ino, What: api.OfPiece, Chunk: chunk} }

func TestOthersOfWhole(t *testing.T) {
	for what, x := range map[string]struct {
		l      []api.Fact
		change func(t *api.Tree)
	}{
		"as it is":              {with(), func(*api.Tree) {}},
		"a piece less":          {without(with(), pieceKey(2, 3)), func(t *api.Tree) { copy(t.Nodes[1].Bytes[6:], "\x00\x00") }},
		"the first piece less":  {without(with(), pieceKey(9, 0)), func(t *api.Tree) { copy(t.Nodes[8].Bytes, "\x00\x00") }},
		"no pieces of it":       {without(with(), pieceKey(9, 0), pieceKey(9, 1)), func(t *api.Tree) { t.Nodes[8].Bytes = make([]byte, 4) }},
		"a piece more":          {with(pieceOf(2, 7, "\x00z")), func(t *api.Tree) { t.Nodes[1].Bytes[15] = 'z' }},
		"a shorter one":         {with(pieceOf(2, 1, "z")), func(t *api.Tree) { copy(t.Nodes[1].Bytes[2:], "z\x00") }},
		"a longer one":          {with(pieceOf(2, 6, "\x00z")), func(t *api.Tree) { copy(t.Nodes[1].Bytes[12:], "\x00z") }},
		"a size less":           {with(fileOf(2, 1, 13)), func(t *api.Tree) { t.Nodes[1].Bytes = t.Nodes[1].Bytes[:13] }},
		"a size more":           {with(fileOf(9, 6, 5)), func(t *api.Tree) { t.Nodes[8].Bytes = append(t.Nodes[8].Bytes, 0) }},
		"as great as it may be": {with(fileOf(9, 6, 16)), func(t *api.Tree) { t.Nodes[8].Bytes = append(t.Nodes[8].Bytes, make([]byte, 12)...) }},
		"a directory more": {with(entryOf(3, "0", 11), dirOf(11)), func(t *api.Tree) {
			t.Nodes[2].Names = slices.Insert(t.Nodes[2].Names, 0, name("0", 11))
			t.Nodes = append(t.Nodes, dir(11))
		}},
		"a far Ino": {with(entryOf(8, "z", 65535), dirOf(65535)), func(t *api.Tree) {
			t.Nodes[7].Names = append(t.Nodes[7].Names, name("z", 65535))
			t.Nodes = append(t.Nodes, dir(65535))
		}},
		"another file of six":    {with(entryOf(1, "b", 9), entryOf(1, "c", 2)), func(t *api.Tree) { t.Nodes[0].Names[1].Ino, t.Nodes[0].Names[2].Ino = 9, 2 }},
		"a link more":            {with(entryOf(1, "e", 6), fileOf(6, 2, 1)), func(t *api.Tree) { t.Nodes[0].Names = append(t.Nodes[0].Names, name("e", 6)); t.Nodes[5].Links = 2 }},
		"a directory without it": {without(with(), nodeKey(7), entryKey(8, "a")), func(t *api.Tree) { t.Nodes[7].Names = t.Nodes[7].Names[1:]; t.Nodes = slices.Delete(t.Nodes, 6, 7) }},
	} {
		want := whole()
		x.change(&want)
		if _, ok := plainTree(x.l, 2); !ok {
			t.Errorf("%s: the plain tree is none", what)
		}
		wantWoven(t, want, x.l)
	}
}

// noTrees answers lists of facts that are just about those of whole.
func noTrees() map[string][]api.Fact {
	return map[string][]api.Fact{
		"none":                   nil,
		"none, but a list":       {},
		"a fact that is nothing": {{}},

		"a node without an entry":       with(dirOf(11)),
		"a file without an entry":       with(fileOf(11, 1, 0)),
		"a file of no links, no entry":  with(fileOf(11, 0, 0)),
		"a node without its entry":      without(with(), entryKey(8, "a")),
		"a file without its entry":      without(with(), entryKey(1, "b")),
		"an entry without a node":       with(entryOf(7, "a", 11)),
		"an entry whose node is gone":   without(with(), nodeKey(7)),
		"an entry of no node, far":      with(entryOf(7, "a", 65535)),
		"a piece without a node":        with(pieceOf(11, 0, "x")),
		"a piece ahead of all":          without(with(), nodeKey(6)),
		"names without a directory":     without(with(), nodeKey(8)),
		"names of no directory at all":  with(entryOf(11, "a", 9)),
		"no way to a part of it":        without(with(), entryKey(5, "a")),
		"an entry of a file":            with(entryOf(6, "a", 9), fileOf(9, 7, 4)),
		"an entry of a file, a node":    with(entryOf(6, "a", 11), dirOf(11)),
		"one of six is of a file":       without(with(entryOf(6, "a", 9)), entryKey(1, "d")),
		"a piece of a directory":        with(pieceOf(7, 0, "x")),
		"a piece of the root":           with(pieceOf(1, 0, "x")),
		"a piece of it, with a size":    with(nodeOf(7, 1, 1, 1), pieceOf(7, 0, "x")),
		"a directory with two entries":  with(entryOf(1, "e", 7)),
		"with two entries and links":    with(entryOf(1, "e", 7), nodeOf(7, 1, 2, 0)),
		"two entries in one directory":  with(entryOf(8, "i", 7)),
		"an entry of the root":          with(entryOf(7, "a", 1)),
		"the root in itself":            with(entryOf(1, "e", 1)),
		"an entry of a way's beginning": with(entryOf(7, "a", 3)),
		"a directory in itself":         with(dirOf(11), entryOf(11, "a", 11)),
		"two in each other":             with(dirOf(11), entryOf(11, "a", 12), dirOf(12), entryOf(12, "a", 11)),
		"a ring that has a file":        with(dirOf(11), entryOf(11, "a", 11), entryOf(11, "f", 6), fileOf(6, 2, 1)),
		"a ring that was a way":         without(with(entryOf(7, "a", 10)), entryKey(5, "a")),
		"the root missing":              without(with(), nodeKey(1)),
		"the root and its names":        with()[5:],
		"the root's names alone":        with()[1:5],
		"the root a file":               {fileOf(1, 1, 0)},
		"the root a file of no links":   {fileOf(1, 0, 0)},
		"the root a file, with a name":  {fileOf(1, 1, 0), entryOf(1, "a", 1)},
		"the root a file, named":        with(fileOf(1, 1, 0)),
		"a root of the Ino 2":           {dirOf(2)},
		"a ring without a root":         {dirOf(2), entryOf(2, "a", 2)},

		"a link too few":               with(fileOf(9, 5, 4)),
		"a link too many":              with(fileOf(6, 2, 1)),
		"no links":                     with(fileOf(6, 0, 1)),
		"255 links":                    with(fileOf(6, 255, 1)),
		"links as an Ino has bytes":    with(nodeOf(6, 2, 0, 1)),
		"a root of no links":           with(nodeOf(1, 1, 0, 0)),
		"a root of two links":          with(nodeOf(1, 1, 2, 0)),
		"a directory of no links":      with(nodeOf(7, 1, 0, 0)),
		"a directory of two links":     with(nodeOf(7, 1, 2, 0)),
		"a directory of as many names": with(nodeOf(8, 1, 4, 0)),
		"a directory of a size":        with(nodeOf(7, 1, 1, 1)),
		"a directory of a great size":  with(nodeOf(7, 1, 1, 65535)),
		"a root of a size":             with(nodeOf(1, 1, 1, 4)),
		"a file that is a directory":   with(dirOf(6)),
		"one without pieces that is":   without(with(nodeOf(6, 1, 1, 1)), pieceKey(6, 0)),
		"a directory that is a file":   with(fileOf(8, 1, 0)),

		"a size below its pieces":    with(fileOf(2, 1, 12)),
		"a size of 0":                with(fileOf(6, 1, 0)),
		"a size one too small":       with(fileOf(9, 6, 3)),
		"17 bytes":                   with(fileOf(2, 1, 17)),
		"256 bytes more":             with(fileOf(2, 1, 16+256)),
		"a size as great as it goes": with(fileOf(2, 1, 65535)),

		"a piece behind the size":         with(pieceOf(6, 1, "x")),
		"the last piece behind it":        with(pieceOf(9, 7, "x")),
		"a piece half behind it":          with(pieceOf(6, 0, "xy")),
		"a piece of a file of no bytes":   with(entryOf(1, "e", 11), fileOf(11, 1, 0), pieceOf(11, 0, "x")),
		"a piece that is too long":        with(pieceOf(2, 0, "012")),
		"one too long that goes on":       without(with(pieceOf(2, 0, "0123")), pieceKey(2, 1)),
		"the last one too long":           with(pieceOf(2, 7, "xyz")),
		"a piece of all bytes":            without(with(pieceOf(9, 0, "nine")), pieceKey(9, 1)),
		"256 bytes of a piece":            with(pieceOf(2, 0, strings.Repeat("x", 256))),
		"a piece that ends with a nought": with(pieceOf(2, 0, "0\x00")),
		"the last one ends with it":       with(pieceOf(2, 6, "c\x00")),
		"a piece of a nought":             with(pieceOf(2, 7, "\x00")),
		"a piece of noughts":              with(pieceOf(2, 7, "\x00\x00")),
		"a piece of no bytes":             with(pieceOf(2, 7, "")),
		"a piece that is nil":             with(api.Fact{Key: pieceKey(2, 7)}),
	}
}

func TestNoTrees(t *testing.T) {
	for what, l := range noTrees() {
		wantNoTree(t, what, l, 2)
	}
}

// Values that say nothing, too little or too much.
func TestNoValues(t *testing.T) {
	for k, values := range map[api.Key][]string{
		nodeKey(1):       {"", "\x01", "\x01\x01", "\x01\x01\x00", "\x01\x01\x00\x00\x00", "\x00\x01\x00\x00", "\x03\x01\x00\x00", "\xff\x01\x00\x00", "\x02\x01\x00\x00"},
		nodeKey(6):       {"", "\x02", "\x02\x01\x01", "\x02\x01\x01\x00\x00", "\x00\x01\x01\x00", "\x03\x01\x01\x00", "\x82\x01\x01\x00", "x"},
		nodeKey(7):       {"", "\x01\x01\x00", "\x01\x01\x00\x00\x00", "\x00\x01\x00\x00", "\x02\x01\x00", "\x01\x01\x00\x01"},
		entryKey(1, "b"): {"", "\x02", "\x02\x00\x00", "\x00\x00", "\x02\x00\x00\x00", "\x01\x00", "\x00\x02", "\x03\x00"},
		entryKey(8, "a"): {"", "\x07", "\x07\x00\x00", "\x00\x00", "\x08\x00", "\x00\x07", "\x07\x07"},
		pieceKey(6, 0):   {"", "\x00", "x\x00", "xy", "\x00x"},
	} {
		for _, v := range values {
			l := wholeFacts()
			l[at(t, l, k)].Value = []byte(v)
			wantNoTree(t, fmt.Sprintf("%+v is %x", k, v), l, 2)
		}
		l := wholeFacts()
		l[at(t, l, k)].Value = nil
		wantNoTree(t, fmt.Sprintf("%+v is nil", k), l, 2)
	}
	// A file may be longer than it has pieces, so one byte is of no matter here.
	l := wholeFacts()
	l[at(t, l, nodeKey(6))].Value = []byte("\x02\x01\x02\x00")
	want := whole()
	want.Nodes[5].Bytes = []byte("x\x00")
	wantTree(t, l, want)
}

// Keys that may not be, wherever one stands.
func TestNoKeys(t *testing.T) {
	keys := []api.Key{
		{}, {Ino: 1}, {What: api.OfNode}, {Ino: -1, What: api.OfNode}, {Ino: 65536, What: api.OfNode}, {Ino: 65536 + 7, What: api.OfNode}, {Ino: math.MaxInt, What: api.OfNode}, {Ino: math.MinInt, What: api.OfNode},
		{Ino: 7, What: 0}, {Ino: 7, What: 4}, {Ino: 7, What: 255},
		{Ino: 7, What: api.OfNode, Name: "a"}, {Ino: 7, What: api.OfNode, Chunk: 1}, {Ino: 7, What: api.OfNode, Chunk: -1},
		{Ino: 8, What: api.OfEntry, Name: "f", Chunk: 1}, {Ino: 8, What: api.OfEntry, Name: "f", Chunk: -1},
		{Ino: 6, What: api.OfPiece, Name: "a"}, {Ino: 6, What: api.OfPiece, Chunk: -1}, {Ino: 6, What: api.OfPiece, Chunk: 8}, {Ino: 6, What: api.OfPiece, Chunk: math.MaxInt}, {Ino: 6, What: api.OfPiece, Chunk: math.MinInt},
	}
	for _, s := range noNames {
		keys = append(keys, entryKey(8, s))
	}
	for _, k := range keys {
		for _, v := range []string{"", "\x07\x00", "\x01\x01\x00\x00", "\x02\x01\x00\x00", "x"} {
			f := api.Fact{Key: k, Value: []byte(v)}
			wantNoTree(t, "put in", with(f), 2)
			for i := range wholeFacts() {
				wantNoTree(t, "in between", slices.Insert(wholeFacts(), i, f), 2)
				l := wholeFacts()
				l[i] = f
				wantNoTree(t, "in place of one", l, 2)
			}
			wantNoTree(t, "alone", []api.Fact{f}, 2)
		}
	}
	// The key of each of them made one that may not be, but with the value it had.
	for i := range wholeFacts() {
		for _, change := range []func(k *api.Key){
			func(k *api.Key) { k.Ino = 0 }, func(k *api.Key) { k.Ino = -k.Ino }, func(k *api.Key) { k.Ino += 65536 },
			func(k *api.Key) { k.What = 0 }, func(k *api.Key) { k.What += 3 }, func(k *api.Key) { k.What += 128 },
			func(k *api.Key) { k.Name += "/" }, func(k *api.Key) { k.Name += "\x00" }, func(k *api.Key) { k.Chunk += 8 }, func(k *api.Key) { k.Chunk -= 8 },
		} {
			l := wholeFacts()
			change(&l[i].Key)
			wantNoTree(t, fmt.Sprintf("%+v changed", l[i].Key), l, 2)
		}
	}
}

// All lists of these facts but the one in order; each of them twice.
func TestNotInOrder(t *testing.T) {
	n := len(wholeFacts())
	for i := range n {
		for j := range n {
			l := wholeFacts()
			l[i], l[j] = l[j], l[i]
			if i != j {
				wantNoTree(t, fmt.Sprintf("%d and %d changed", i, j), l, 2)
			}
			f := wholeFacts()[i]
			l = slices.Insert(wholeFacts(), j, f)
			wantNoTree(t, fmt.Sprintf("%d once more at %d", i, j), l, 2)
			l = slices.Delete(wholeFacts(), i, i+1)
			l = slices.Insert(l, min(j, n-1), f)
			if j != i {
				wantNoTree(t, fmt.Sprintf("%d put to %d", i, j), l, 2)
			}
		}
		wantNoTree(t, fmt.Sprintf("%d once more, behind", i), append(wholeFacts(), wholeFacts()[i]), 2)
	}
	l := wholeFacts()
	slices.Reverse(l)
	wantNoTree(t, "turned round", l, 2)
	wantNoTree(t, "all twice", append(wholeFacts(), wholeFacts()...), 2)
	wantNoTree(t, "a root twice", []api.Fact{dirOf(1), dirOf(1)}, 2)
}

// Facts are those of a tree of one piece, or of others, or of none.
func TestOtherPieces(t *testing.T) {
	for _, piece := range []int{math.MinInt, -256, -255, -2, -1, 0, 256, 257, 258, 511, 1<<16 + 2, 1<<32 + 2, 1<<61 + 2, math.MaxInt} {
		wantNoTree(t, "a root", []api.Fact{dirOf(1)}, piece)
		wantNoTree(t, "whole", wholeFacts(), piece)
	}
	for piece := 1; piece <= 255; piece++ {
		wantTree(t, []api.Fact{dirOf(1)}, fresh(t, piece))
		if piece != 2 {
			wantNoTree(t, "whole", wholeFacts(), piece)
		}
	}
	// Where a file has no more than its first piece, a longer one is as good.
	l := []api.Fact{dirOf(1), entryOf(1, "f", 2), fileOf(2, 1, 5), pieceOf(2, 0, "01234")}
	wantNoTree(t, "a piece of 4", l, 4)
	for piece := 5; piece <= 255; piece++ {
		tree, _ := oneFile(piece, "01234")
		wantTree(t, l, tree)
	}
	// Its second piece tells where the first one ends.
	l = []api.Fact{dirOf(1), entryOf(1, "f", 2), fileOf(2, 1, 9), pieceOf(2, 1, "ab")}
	for piece := 1; piece <= 255; piece++ {
		if piece >= 2 && piece <= 7 {
			tree, _ := oneFile(piece, strings.Repeat("\x00", piece)+"ab"+strings.Repeat("\x00", 7-piece))
			wantTree(t, l, tree)
		} else {
			wantNoTree(t, "ab", l, piece)
		}
	}
}

// P8.1: the limits.

// many answers facts of a root and so many files in it.
func many(n int) []api.Fact {
	l := []api.Fact{dirOf(1)}
	for i := range n {
		l = append(l, entryOf(1, fmt.Sprintf("n%06d", i), i+2))
	}
	for i := range n {
		l = append(l, fileOf(i+2, 1, 0))
	}
	return l
}

func TestMostNodes(t *testing.T) {
	for n := range 60 {
		if n <= 47 {
			got, e := woven.Tree(many(n), 1)
			if e != api.OK || len(got.Nodes) != n+1 {
				t.Errorf("Tree(of %d files) = %s, %d", n, text(got), e)
			}
		} else {
			wantNoTree(t, fmt.Sprint(n, " files"), many(n), 1)
		}
	}
}

func TestMostLinks(t *testing.T) {
	for links := range 20 {
		l := []api.Fact{dirOf(1)}
		for i := range links {
			l = append(l, entryOf(1, fmt.Sprintf("n%02d", i), 2))
		}
		l = append(l, fileOf(2, links, 0))
		got, e := woven.Tree(l, 1)
		switch {
		case links >= 1 && links <= 6:
			if e != api.OK || len(got.Nodes) != 2 || got.Nodes[1].Links != links {
				t.Errorf("Tree(of a file of %d links) = %s, %d", links, text(got), e)
			}
		default:
			wantNoTree(t, fmt.Sprint(links, " links"), l, 1)
		}
	}
}

func TestMostBytes(t *testing.T) {
	for _, piece := range []int{1, 2, 31, 32, 255} {
		for _, size := range []int{8*piece - 1, 8 * piece, 8*piece + 1, 9 * piece, 65535} {
			l := []api.Fact{dirOf(1), entryOf(1, "f", 2), fileOf(2, 1, size)}
			if size <= 8*piece {
				tree, _ := oneFile(piece, strings.Repeat("\x00", size))
				wantTree(t, l, tree)
			} else {
				wantNoTree(t, fmt.Sprint(size, " bytes"), l, piece)
			}
		}
	}
}

// chain answers facts of a directory in a directory, and so on, and of what
// stands in the last one.
func chain(n int, last func(ino int) api.Fact) []api.Fact {
	var l []api.Fact
	for ino := 1; ino <= n; ino++ {
		l = append(l, dirOf(ino), entryOf(ino, "a", ino+1))
	}
	return append(l, last(n+1))
}

func TestMostNames(t *testing.T) {
	for _, last := range []func(ino int) api.Fact{dirOf, func(ino int) api.Fact { return fileOf(ino, 1, 0) }} {
		for n := range 60 {
			l := chain(n, last)
			got, e := woven.Tree(l, 1)
			switch {
			case n == 0 && l[0].Value[0] == 2, n > 6:
				wantNoTree(t, fmt.Sprint(n, " names"), l, 1)
			case e != api.OK || len(got.Nodes) != n+1:
				t.Errorf("Tree(of a way of %d names) = %s, %d", n, text(got), e)
			}
		}
	}
	// Of a file's names the longest way counts.
	l := chain(6, func(ino int) api.Fact { return dirOf(ino) })
	l = append(l, entryOf(7, "f", 8), fileOf(8, 2, 0))
	l = slices.Insert(l, 2, entryOf(1, "f", 8))
	wantNoTree(t, "a link of 7 names", l, 1)
}

// Lists of any length, also of as many as there are Inos, are gone through
// without a wait.
func TestGreatLists(t *testing.T) {
	wantEnd := func(what string, l []api.Fact, piece int) {
		t.Helper()
		if got, e := woven.Tree(l, piece); e != api.ErrCorrupt || got.Piece != 0 || len(got.Nodes) != 0 {
			t.Errorf("%s: %d nodes, %d", what, len(got.Nodes), e)
		}
	}
	wantEnd("files", many(65534), 1)
	wantEnd("directories, one in the other", chain(65534, dirOf), 1)
	wantEnd("a ring", chain(65534, func(ino int) api.Fact { return entryOf(ino, "a", 1) }), 1)

	great := []api.Fact{dirOf(1)}
	for i := range 1 << 18 {
		great = append(great, entryOf(1, fmt.Sprintf("n%06d", i), 2))
	}
	wantEnd("links", append(great, fileOf(2, 6, 0)), 1)

	great = many(65534)
	for i, f := range great {
		if f.Key.Ino > 1 {
			great[i] = fileOf(f.Key.Ino, 1, 65535)
		}
	}
	wantEnd("files of 65535 bytes", great, 255)

	all := []api.Fact{}
	for range 1 << 18 {
		all = append(all, dirOf(1))
	}
	wantEnd("roots", all, 1)
}
