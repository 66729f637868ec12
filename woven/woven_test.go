package woven_test

import (
	"fmt"
	"math"
	"slices"
	"strings"
	"testing"

	"carrack/api"
	"carrack/model"
	"carrack/woven"
)

// wantWoven: the tree has these facts, and they are the facts of it.
func wantWoven(t *testing.T, tree api.Tree, want []api.Fact) {
	t.Helper()
	l, e := woven.Facts(tree)
	if e != api.OK || factsText(l) != factsText(want) {
		t.Errorf("Facts(%s) = %s, %d; want %s", text(tree), factsText(l), e, factsText(want))
	}
	if n := woven.Count(tree); n != len(want) {
		t.Errorf("Count(%s) = %d; want %d", text(tree), n, len(want))
	}
	wantTree(t, want, tree)
}

// wantTree: they are the facts of that tree.
func wantTree(t *testing.T, l []api.Fact, want api.Tree) {
	t.Helper()
	got, e := woven.Tree(l, want.Piece)
	if e != api.OK || text(got) != text(want) || !model.Right(got) {
		t.Errorf("Tree(%s, %d) = %s, %d; want %s", factsText(l), want.Piece, text(got), e, text(want))
	}
}

// wantNoFacts: of the tree there are none.
func wantNoFacts(t *testing.T, what string, tree api.Tree) {
	t.Helper()
	if l, e := woven.Facts(tree); e != api.ErrArg || len(l) != 0 {
		t.Errorf("%s: Facts(%s) = %s, %d; want ErrArg", what, text(tree), factsText(l), e)
	}
	if n := woven.Count(tree); n != 0 {
		t.Errorf("%s: Count(%s) = %d; want 0", what, text(tree), n)
	}
}

// wantNoTree: they are the facts of none of that piece.
func wantNoTree(t *testing.T, what string, l []api.Fact, piece int) {
	t.Helper()
	got, e := woven.Tree(l, piece)
	if e != api.ErrCorrupt || got.Piece != 0 || len(got.Nodes) != 0 {
		t.Errorf("%s: Tree(%s, %d) = %s, %d; want ErrCorrupt", what, factsText(l), piece, text(got), e)
	}
}

func fresh(t *testing.T, piece int) api.Tree {
	t.Helper()
	tree, e := model.New(piece)
	if e != api.OK {
		t.Fatalf("New(%d): %d", piece, e)
	}
	return tree
}

func dir(ino int, names ...api.Name) api.Inode {
	return api.Inode{Ino: ino, Kind: api.Dir, Links: 1, Names: names}
}

func file(ino, links int, b string) api.Inode {
	return api.Inode{Ino: ino, Kind: api.File, Links: links, Bytes: []byte(b)}
}

func name(s string, ino int) api.Name {
	return api.Name{Name: s, Ino: ino}
}

// The chapter's examples.

func TestExamples(t *testing.T) {
	tree := fresh(t, 32)
	l, e := woven.Facts(tree)
	if e != api.OK || len(l) != 1 {
		t.Errorf("Facts(a new tree) = %s, %d", factsText(l), e)
	}
	wantTree(t, l, tree)
	wantNoTree(t, "none", nil, 32)
	wantNoTree(t, "two nodes without an entry", []api.Fact{dirOf(1), dirOf(2)}, 32)
	wantNoTree(t, "two nodes without an entry", []api.Fact{dirOf(1), fileOf(2, 1, 0)}, 32)
}

// P8.1: Facts, Count, and Tree of them.

func TestNewTree(t *testing.T) {
	for piece := 1; piece <= 255; piece++ {
		wantWoven(t, fresh(t, piece), []api.Fact{{Key: api.Key{Ino: 1, What: api.OfNode}, Value: []byte{1, 1, 0, 0}}})
	}
}

func TestDirectories(t *testing.T) {
	tree := api.Tree{Piece: 32, Nodes: []api.Inode{
		dir(1, name("a", 2), name("b", 3)), dir(2, name("c", 4)), dir(3), dir(4),
	}}
	wantWoven(t, tree, []api.Fact{
		dirOf(1), entryOf(1, "a", 2), entryOf(1, "b", 3), dirOf(2), entryOf(2, "c", 4), dirOf(3), dirOf(4),
	})
}

func TestFilesAndLinks(t *testing.T) {
	tree := api.Tree{Piece: 4, Nodes: []api.Inode{
		dir(1, name("a", 3), name("b", 2), name("c", 3), name("d", 4)),
		file(2, 1, "two, of three pieces"[:9]),
		file(3, 3, "thr"),
		dir(4, name("a", 3), name("e", 5)),
		file(5, 1, ""),
	}}
	wantWoven(t, tree, []api.Fact{
		dirOf(1), entryOf(1, "a", 3), entryOf(1, "b", 2), entryOf(1, "c", 3), entryOf(1, "d", 4),
		fileOf(2, 1, 9), pieceOf(2, 0, "two,"), pieceOf(2, 1, " of "), pieceOf(2, 2, "t"),
		fileOf(3, 3, 3), pieceOf(3, 0, "thr"),
		dirOf(4), entryOf(4, "a", 3), entryOf(4, "e", 5),
		fileOf(5, 1, 0),
	})
}

// Names stand by their bytes, Inos by their numbers, which as bytes, the lowest
// first, or as text would stand otherwise.
func TestOrder(t *testing.T) {
	names := []string{"-", "...", ".a", "0", "9", "a", "a-", "a.", "a0", "aa", "abcdefghijkl", "z"}
	inos := []int{2, 9, 10, 100, 255, 256, 257, 511, 512, 4660, 13330, 65535}
	root := dir(1)
	nodes, want := []api.Inode{}, []api.Fact{dirOf(1)}
	for i, s := range names {
		root.Names = append(root.Names, name(s, inos[(i*5)%12]))
		want = append(want, entryOf(1, s, inos[(i*5)%12]))
	}
	for _, ino := range inos {
		nodes = append(nodes, file(ino, 1, "x"))
		want = append(want, fileOf(ino, 1, 1), pieceOf(ino, 0, "x"))
	}
	wantWoven(t, api.Tree{Piece: 1, Nodes: append([]api.Inode{root}, nodes...)}, want)
}

// oneFile answers a tree of that piece with a file of those bytes, and the facts
// ahead of those of its pieces.
func oneFile(piece int, b string) (api.Tree, []api.Fact) {
	return api.Tree{Piece: piece, Nodes: []api.Inode{dir(1, name("f", 2)), file(2, 1, b)}},
		[]api.Fact{dirOf(1), entryOf(1, "f", 2), fileOf(2, 1, len(b))}
}

// Files of no bytes, of parts of pieces, of just so many pieces, and one more.
func TestSizes(t *testing.T) {
	for _, piece := range []int{1, 2, 32, 72, 254, 255} {
		for _, size := range []int{0, 1, piece - 1, piece, piece + 1, 2*piece - 1, 2 * piece, 3*piece + 1, 7 * piece, 8*piece - 1, 8 * piece} {
			size = min(size, 8*piece)
			b := strings.Repeat("0123456789abcdefg", 120)[:size]
			tree, want := oneFile(piece, b)
			for chunk := range 8 {
				if v := b[min(chunk*piece, size):min(chunk*piece+piece, size)]; v != "" {
					want = append(want, pieceOf(2, chunk, v))
				}
			}
			wantWoven(t, tree, want)
		}
	}
}

func TestNoughts(t *testing.T) {
	nought := strings.Repeat("\x00", 2040)
	for _, x := range []struct {
		piece  int
		b      string
		pieces []api.Fact
	}{
		{4, nought[:1], nil},
		{4, nought[:4], nil},
		{4, nought[:32], nil},
		{255, nought[:2040], nil},
		{4, "\x00\x00\x00x", []api.Fact{pieceOf(2, 0, "\x00\x00\x00x")}},
		{4, "x\x00\x00\x00", []api.Fact{pieceOf(2, 0, "x")}},
		{4, "x\x00y\x00\x00", []api.Fact{pieceOf(2, 0, "x\x00y")}},
		{4, "ab\x00\x00cd", []api.Fact{pieceOf(2, 0, "ab"), pieceOf(2, 1, "cd")}},
		{4, "abcd" + nought[:4] + "e", []api.Fact{pieceOf(2, 0, "abcd"), pieceOf(2, 2, "e")}},
		{4, nought[:28] + "\x00e\x00\x00", []api.Fact{pieceOf(2, 7, "\x00e")}},
		{4, "abcde" + nought[:20], []api.Fact{pieceOf(2, 0, "abcd"), pieceOf(2, 1, "e")}},
		{4, nought[:5] + "a" + nought[:7] + "b\x00", []api.Fact{pieceOf(2, 1, "\x00a"), pieceOf(2, 3, "\x00b")}},
		{1, "a\x00b\x00\x00c\x00", []api.Fact{pieceOf(2, 0, "a"), pieceOf(2, 2, "b"), pieceOf(2, 5, "c")}},
		{32, nought[:32] + "a" + nought[:222] + "b", []api.Fact{pieceOf(2, 1, "a"), pieceOf(2, 7, nought[:31]+"b")}},
		{255, "a" + nought[:255] + "b" + nought[:1000], []api.Fact{pieceOf(2, 0, "a"), pieceOf(2, 1, "\x00b")}},
		{255, nought[:2039] + "\xff", []api.Fact{pieceOf(2, 7, nought[:254]+"\xff")}},
		// What is as good as blank to a text is no nought.
		{4, "a \n\tb  0", []api.Fact{pieceOf(2, 0, "a \n\t"), pieceOf(2, 1, "b  0")}},
		{4, "\xff\xfe\x80\x00", []api.Fact{pieceOf(2, 0, "\xff\xfe\x80")}},
	} {
		tree, want := oneFile(x.piece, x.b)
		wantWoven(t, tree, append(want, x.pieces...))
	}
}

// whole is a tree at all its limits but the number of nodes: a way of 6 names,
// a file of 6 links, one of as many bytes as it may have.
func whole() api.Tree {
	return api.Tree{Piece: 2, Nodes: []api.Inode{
		dir(1, name("a", 3), name("b", 2), name("c", 9), name("d", 9)),
		file(2, 1, "0123456789\x00bc\x00\x00\x00"),
		dir(3, name("a", 4), name("b", 9), name("c", 9)),
		dir(4, name("a", 5)),
		dir(5, name("a", 10)),
		file(6, 1, "x"),
		dir(7),
		dir(8, name("a", 7), name("f", 6), name("g", 9), name("h", 9)),
		file(9, 6, "nine"),
		dir(10, name("a", 8)),
	}}
}

func wholeFacts() []api.Fact {
	return []api.Fact{
		dirOf(1), entryOf(1, "a", 3), entryOf(1, "b", 2), entryOf(1, "c", 9), entryOf(1, "d", 9),
		fileOf(2, 1, 16), pieceOf(2, 0, "01"), pieceOf(2, 1, "23"), pieceOf(2, 2, "45"), pieceOf(2, 3, "67"), pieceOf(2, 4, "89"), pieceOf(2, 5, "\x00b"), pieceOf(2, 6, "c"),
		dirOf(3), entryOf(3, "a", 4), entryOf(3, "b", 9), entryOf(3, "c", 9),
		dirOf(4), entryOf(4, "a", 5),
		dirOf(5), entryOf(5, "a", 10),
		fileOf(6, 1, 1), pieceOf(6, 0, "x"),
		dirOf(7),
		dirOf(8), entryOf(8, "a", 7), entryOf(8, "f", 6), entryOf(8, "g", 9), entryOf(8, "h", 9),
		fileOf(9, 6, 4), pieceOf(9, 0, "ni"), pieceOf(9, 1, "ne"),
		dirOf(10), entryOf(10, "a", 8),
	}
}

func TestWhole(t *testing.T) {
	wantWoven(t, whole(), wholeFacts())
	if l, ok := plainTree(wholeFacts(), 2); !ok || text(l) != text(whole()) {
		t.Errorf("the plain tree is %s, %v", text(l), ok)
	}
}

// A tree of as many nodes, links, bytes and names on a way as there may be.
func TestMost(t *testing.T) {
	tree := whole()
	tree.Nodes[0].Names = tree.Nodes[0].Names[:4:4]
	for ino := 11; ino <= 48; ino++ {
		tree.Nodes[0].Names = append(tree.Nodes[0].Names, name(fmt.Sprint("n", ino), ino))
		tree.Nodes = append(tree.Nodes, file(ino, 1, strings.Repeat("z", ino%17)))
	}
	if !model.Right(tree) {
		t.Fatalf("%s is not right", text(tree))
	}
	wantWoven(t, tree, plainFacts(tree))
}

// The values' numbers have the lowest byte first.
func TestBytesOfValues(t *testing.T) {
	tree := api.Tree{Piece: 200, Nodes: []api.Inode{
		dir(1, name("a", 258), name("b", 65535), name("c", 65535)),
		file(258, 1, strings.Repeat("x", 0x0403)),
		file(65535, 2, ""),
	}}
	l, e := woven.Facts(tree)
	want := []string{"01010000", "0201", "ffff", "ffff", "02010304"}
	if e != api.OK || len(l) != 12 {
		t.Fatalf("Facts(%s) = %s, %d", text(tree), factsText(l), e)
	}
	for i, s := range want {
		if got := fmt.Sprintf("%x", l[i].Value); got != s {
			t.Errorf("the value %d is %s; want %s", i, got, s)
		}
	}
	if got := fmt.Sprintf("%x", l[11].Value); got != "02020000" {
		t.Errorf("the value of the last node is %s", got)
	}
}

// P8.1: Facts and Count of what is not right.

// broken are changes of whole each of which breaks one of the things that the
// words ask of a tree.
var broken = map[string]func(t *api.Tree){
	"piece 0":        func(t *api.Tree) { t.Piece = 0; t.Nodes = t.Nodes[:1]; t.Nodes[0].Names = nil },
	"piece below 0":  func(t *api.Tree) { t.Piece = -1 },
	"least piece":    func(t *api.Tree) { t.Piece = math.MinInt },
	"piece 256":      func(t *api.Tree) { t.Piece = 256 },
	"greatest piece": func(t *api.Tree) { t.Piece = math.MaxInt },
	"no nodes":       func(t *api.Tree) { t.Nodes = nil },
	"empty nodes":    func(t *api.Tree) { t.Nodes = []api.Inode{} },
	"nothing":        func(t *api.Tree) { *t = api.Tree{} },

	"two nodes changed": func(t *api.Tree) { t.Nodes[2], t.Nodes[3] = t.Nodes[3], t.Nodes[2] },
	"a node twice":      func(t *api.Tree) { t.Nodes = slices.Insert(t.Nodes, 5, t.Nodes[5]) },
	"the root twice":    func(t *api.Tree) { t.Nodes = slices.Insert(t.Nodes, 0, t.Nodes[0]) },
	"two of one Ino":    func(t *api.Tree) { t.Nodes[6].Ino = 6 },

	"no root":               func(t *api.Tree) { t.Nodes = t.Nodes[1:] },
	"no root but a ring":    func(t *api.Tree) { t.Nodes = []api.Inode{dir(20, name("a", 20))} },
	"a root of the Ino 2":   func(t *api.Tree) { t.Nodes = []api.Inode{dir(2)} },
	"a root of the Ino 0":   func(t *api.Tree) { t.Nodes[0].Ino = 0 },
	"a root that is a file": func(t *api.Tree) { t.Nodes = []api.Inode{file(1, 1, "")} },
	"a root of no kind":     func(t *api.Tree) { t.Nodes[0].Kind = 0 },
	"a root of no links":    func(t *api.Tree) { t.Nodes[0].Links = 0 },
	"a root of two links":   func(t *api.Tree) { t.Nodes[0].Links = 2 },
	"an entry of the root":  func(t *api.Tree) { t.Nodes[6].Names = []api.Name{name("a", 1)} },
	"the root in itself":    func(t *api.Tree) { t.Nodes[0].Names = append(t.Nodes[0].Names, name("e", 1)) },
	"a node below 0":        func(t *api.Tree) { t.Nodes = slices.Insert(t.Nodes, 0, file(-2, 1, "")) },

	"a kind 0":   func(t *api.Tree) { t.Nodes[5].Kind = 0 },
	"a kind 3":   func(t *api.Tree) { t.Nodes[5].Kind = 3 },
	"a kind 255": func(t *api.Tree) { t.Nodes[6].Kind = 255 },

	"entries changed": func(t *api.Tree) { l := t.Nodes[7].Names; l[0], l[1] = l[1], l[0] },
	"one name twice":  func(t *api.Tree) { t.Nodes[0].Names[1].Name = "a" },
	"one entry twice": func(t *api.Tree) { t.Nodes[0].Names[3].Name = "c" },

	"an Ino that no node has": func(t *api.Tree) { t.Nodes[6].Names = []api.Name{name("a", 11)} },
	"an Ino of 0":             func(t *api.Tree) { t.Nodes[6].Names = []api.Name{name("a", 0)} },
	"an Ino below 0":          func(t *api.Tree) { t.Nodes[6].Names = []api.Name{name("a", -1)} },
	"an Ino that is far":      func(t *api.Tree) { t.Nodes[6].Names = []api.Name{name("a", math.MaxInt)} },
	"a node taken out":        func(t *api.Tree) { t.Nodes = slices.Delete(t.Nodes, 5, 6) },
	"a file without entries":  func(t *api.Tree) { t.Nodes[7].Names = slices.Delete(t.Nodes[7].Names, 1, 2) },
	"a file of no links":      func(t *api.Tree) { t.Nodes = append(t.Nodes, file(20, 0, "")) },
	"a file of links below 0": func(t *api.Tree) { t.Nodes[5].Links = -1 },
	"a link too few":          func(t *api.Tree) { t.Nodes[8].Links = 5 },
	"a link too many":         func(t *api.Tree) { t.Nodes[5].Links = 2 },
	"a name less":             func(t *api.Tree) { t.Nodes[0].Names = t.Nodes[0].Names[:3] },
	"7 links": func(t *api.Tree) {
		t.Nodes[8].Links = 7
		t.Nodes[0].Names = append(t.Nodes[0].Names, name("e", 9))
	},
	"a directory of no links":      func(t *api.Tree) { t.Nodes[6].Links = 0 },
	"a directory of two links":     func(t *api.Tree) { t.Nodes[6].Links = 2 },
	"a directory with two entries": func(t *api.Tree) { t.Nodes[0].Names = append(t.Nodes[0].Names, name("e", 7)) },
	"two entries and two links": func(t *api.Tree) {
		t.Nodes[6].Links = 2
		t.Nodes[0].Names = append(t.Nodes[0].Names, name("e", 7))
	},
	"a directory without an entry": func(t *api.Tree) { t.Nodes = append(t.Nodes, dir(20)) },
	"a directory with bytes":       func(t *api.Tree) { t.Nodes[6].Bytes = []byte{0} },
	"a root with bytes":            func(t *api.Tree) { t.Nodes[0].Bytes = []byte("x") },
	"a file with an entry":         func(t *api.Tree) { t.Nodes[5].Names = []api.Name{name("a", 9)}; t.Nodes[8].Links = 7 },
	"a file with one of six":       func(t *api.Tree) { l := t.Nodes[0].Names; t.Nodes[0].Names, t.Nodes[1].Names = l[:3], l[3:] },

	"a directory in itself": func(t *api.Tree) { t.Nodes = append(t.Nodes, dir(20, name("a", 20))) },
	"two in each other":     func(t *api.Tree) { t.Nodes = append(t.Nodes, dir(20, name("a", 21)), dir(21, name("a", 20))) },
	"a file in a ring": func(t *api.Tree) {
		t.Nodes = append(t.Nodes, dir(20, name("a", 20), name("b", 21)), file(21, 1, ""))
	},
	"cut off into a ring": func(t *api.Tree) { t.Nodes[4].Names = nil; t.Nodes[6].Names = []api.Name{name("a", 10)} },

	"17 bytes":        func(t *api.Tree) { t.Nodes[1].Bytes = make([]byte, 17) },
	"a smaller piece": func(t *api.Tree) { t.Piece = 1 },
	"49 nodes": func(t *api.Tree) {
		for ino := 11; ino <= 49; ino++ {
			t.Nodes[0].Names = append(t.Nodes[0].Names, name(fmt.Sprint("n", ino), ino))
			t.Nodes = append(t.Nodes, file(ino, 1, ""))
		}
	},
	"a file of 7 names": func(t *api.Tree) {
		t.Nodes[6].Names = []api.Name{name("a", 11)}
		t.Nodes = append(t.Nodes, file(11, 1, ""))
	},
	"a link of 7 names": func(t *api.Tree) { t.Nodes[6].Names = []api.Name{name("a", 6)}; t.Nodes[5].Links = 2 },
}

// noNames are names that none may have.
var noNames = []string{"", ".", "..", "A", "a/b", "/", "a b", "abcdefghijklm", "\x00", "\xff", "\u00e4", "_", strings.Repeat("a", 256)}

func TestFactsOfWhatIsNotRight(t *testing.T) {
	for what, change := range broken {
		tree := whole()
		change(&tree)
		if model.Right(tree) {
			t.Errorf("%s: %s is right", what, text(tree))
		}
		wantNoFacts(t, what, tree)
	}
	for _, s := range noNames {
		tree := whole()
		tree.Nodes[3].Names[0].Name = s
		wantNoFacts(t, fmt.Sprintf("the name %q", s), tree)
	}
}

// A key has no greater Ino than 65535, so a tree with one has no facts, though
// nothing else is wrong with it.
func TestInosThatNoKeyHas(t *testing.T) {
	for _, ino := range []int{65536, 65537, 65538, 1 << 20, 1<<32 + 2, math.MaxInt} {
		wantNoFacts(t, "a file", api.Tree{Piece: 2, Nodes: []api.Inode{dir(1, name("a", ino)), file(ino, 1, "x")}})
		wantNoFacts(t, "a directory", api.Tree{Piece: 2, Nodes: []api.Inode{dir(1, name("a", 2), name("b", ino)), file(2, 1, ""), dir(ino)}})
		wantNoFacts(t, "a directory with a file", api.Tree{Piece: 2, Nodes: []api.Inode{dir(1, name("b", ino)), file(2, 1, ""), dir(ino, name("a", 2))}})
	}
}
