package steps_test

import (
	"fmt"
	"math"
	"strings"
	"testing"

	"carrack/api"
	"carrack/fact"
	"carrack/model"
	"carrack/steps"
	"carrack/woven"
)

// Acts, in short.

func mkdir(s string) api.Act         { return api.Act{Kind: api.ActMkdir, Path: s} }
func create(s string) api.Act        { return api.Act{Kind: api.ActCreate, Path: s} }
func rmdir(s string) api.Act         { return api.Act{Kind: api.ActRmdir, Path: s} }
func link(s, other string) api.Act   { return api.Act{Kind: api.ActLink, Path: s, To: other} }
func unlink(s string) api.Act        { return api.Act{Kind: api.ActUnlink, Path: s} }
func rename(s, other string) api.Act { return api.Act{Kind: api.ActRename, Path: s, To: other} }
func cutTo(s string, n int) api.Act  { return api.Act{Kind: api.ActCut, Path: s, N: n} }
func write(s string, at int, b string) api.Act {
	return api.Act{Kind: api.ActWrite, Path: s, At: at, Bytes: []byte(b)}
}

// Changes, in short.

func nodeKey(ino int) api.Key               { return api.Key{Ino: ino, What: api.OfNode} }
func entryKey(dir int, name string) api.Key { return api.Key{Ino: dir, What: api.OfEntry, Name: name} }
func pieceKey(ino, chunk int) api.Key       { return api.Key{Ino: ino, What: api.OfPiece, Chunk: chunk} }

func nodeValue(kind uint8, links, size int) []byte {
	return []byte{kind, byte(links), byte(size), byte(size >> 8)}
}

func to(k api.Key, v string) api.Change { return api.Change{Key: k, Value: []byte(v)} }
func gone(k api.Key) api.Change         { return api.Change{Key: k, Gone: true} }

func toDir(ino int) api.Change { return to(nodeKey(ino), string(nodeValue(1, 1, 0))) }
func toFile(ino, links, size int) api.Change {
	return to(nodeKey(ino), string(nodeValue(2, links, size)))
}
func toEntry(dir int, name string, ino int) api.Change {
	return to(entryKey(dir, name), string([]byte{byte(ino), byte(ino >> 8)}))
}
func toPiece(ino, chunk int, b string) api.Change { return to(pieceKey(ino, chunk), b) }

type step = []api.Change

// fresh answers a new tree on which the acts were done, none of which refuses.
func fresh(t *testing.T, piece int, acts ...api.Act) api.Tree {
	t.Helper()
	tree, e := model.New(piece)
	if e != api.OK {
		t.Fatalf("New(%d): %d", piece, e)
	}
	for _, a := range acts {
		behind, answer := model.Do(tree, a)
		if answer.E != api.OK {
			t.Fatalf("Do(%s, %+v) = %+v", text(tree), a, answer)
		}
		tree = behind
	}
	return tree
}

// wantOf: the act has these steps, and the tree and the answer of the model.
func wantOf(t *testing.T, tree api.Tree, a api.Act, want ...step) {
	t.Helper()
	got, behind, answer := steps.Of(tree, a)
	wantTree, wantAnswer := model.Do(tree, a)
	if text(behind) != text(wantTree) || answerText(answer) != answerText(wantAnswer) {
		t.Errorf("Of(%s, %+v) = .., %s, %+v; want %s, %+v", text(tree), a, text(behind), answer, text(wantTree), wantAnswer)
	}
	if stepsText(got) != stepsText(want) {
		t.Errorf("Of(%s, %+v) = %s; want %s", text(tree), a, stepsText(got), stepsText(want))
	}
	wantFollows(t, tree, a, got)
}

// wantFollows: behind each of the steps the facts are those of the tree that the
// words say, and none costs too much.
func wantFollows(t *testing.T, tree api.Tree, a api.Act, got [][]api.Change) {
	t.Helper()
	l, _ := woven.Facts(tree)
	last, i := tree, 0
	for _, next := range plainTrees(tree, a) {
		if text(next) == text(last) {
			continue
		}
		if i == len(got) {
			t.Fatalf("Of(%s, %+v): no step to %s", text(tree), a, text(next))
		}
		wantOrder(t, got[i])
		l = fact.Apply(l, got[i])
		back, e := woven.Tree(l, tree.Piece)
		if e != api.OK || text(back) != text(next) {
			t.Fatalf("Of(%s, %+v): behind the step %d: %s, %d; want %s", text(tree), a, i, text(back), e, text(next))
		}
		wantCheap(t, tree.Piece, got[i])
		last = next
		i++
	}
	if i != len(got) {
		t.Fatalf("Of(%s, %+v): steps that change nothing: %s", text(tree), a, stepsText(got[i:]))
	}
}

func wantOrder(t *testing.T, l step) {
	t.Helper()
	if len(l) == 0 {
		t.Error("a step of no changes")
	}
	for i, c := range l {
		if !fact.MayKey(c.Key) || i > 0 && !fact.Before(l[i-1].Key, c.Key) {
			t.Errorf("not in the order of keys: %s", stepText(l))
		}
		if c.Gone == (len(c.Value) > 0) {
			t.Errorf("gone with a value, or there without one: %s", stepText(l))
		}
	}
}

// wantCheap: P9.3's bounds.
func wantCheap(t *testing.T, piece int, l step) {
	t.Helper()
	most := 82
	for _, c := range l {
		if c.Key.What == api.OfPiece && !c.Gone {
			most = piece + 51
		}
	}
	if n := steps.Cost([][]api.Change{l}); n > most || n != plainCost([][]api.Change{l}) {
		t.Errorf("Cost(%s) = %d; want %d, and at most %d", stepText(l), n, plainCost([][]api.Change{l}), most)
	}
}

// wantNone: the act has no step, and the tree is as it was.
func wantNone(t *testing.T, tree api.Tree, a api.Act) {
	t.Helper()
	wantOf(t, tree, a)
	if _, behind, _ := steps.Of(tree, a); text(behind) != text(tree) {
		t.Errorf("Of(%s, %+v): the tree behind is %s", text(tree), a, text(behind))
	}
}

// The chapter's examples.

func TestExamples(t *testing.T) {
	tree := fresh(t, 72)
	got, tree, answer := steps.Of(tree, create("/a"))
	if want := stepText(step{toEntry(1, "a", 2), toFile(2, 1, 0)}); stepsText(got) != want || answer.Ino != 2 {
		t.Errorf("Of(a new tree, Create /a) = %s, %+v; want %s", stepsText(got), answer, want)
	}
	got, _, answer = steps.Of(tree, write("/a", 0, strings.Repeat("x", 100)))
	if len(got) != 2 || answer.N != 100 {
		t.Errorf("Of(that, Write /a at 0, 100 bytes) = %s, %+v; want 2 steps", stepsText(got), answer)
	}
}

// P9.1: acts on names.

func TestMake(t *testing.T) {
	tree := fresh(t, 4)
	wantOf(t, tree, mkdir("/d"), step{toEntry(1, "d", 2), toDir(2)})
	wantOf(t, tree, create("/abcdefghijkl"), step{toEntry(1, "abcdefghijkl", 2), toFile(2, 1, 0)})
	tree = fresh(t, 4, mkdir("/a"), create("/b"), mkdir("/c"), unlink("/b"))
	// The node's Ino may stand ahead of the directory's.
	wantOf(t, tree, create("/c/x"), step{toFile(3, 1, 0), toEntry(4, "x", 3)})
	wantOf(t, tree, mkdir("/a/x"), step{toEntry(2, "x", 3), toDir(3)})
}

func TestRmdir(t *testing.T) {
	tree := fresh(t, 4, mkdir("/a"), mkdir("/b"), rmdir("/a"), mkdir("/b/a"))
	wantOf(t, tree, rmdir("/b/a"), step{gone(nodeKey(2)), gone(entryKey(3, "a"))})
	wantNone(t, tree, rmdir("/b"))
	wantNone(t, tree, rmdir("/"))
	wantOf(t, fresh(t, 4, mkdir("/a")), rmdir("/a"), step{gone(entryKey(1, "a")), gone(nodeKey(2))})
}

func TestLinkUnlink(t *testing.T) {
	tree := fresh(t, 4, create("/f"), write("/f", 0, "abcde"), mkdir("/d"))
	wantOf(t, tree, link("/f", "/d/g"), step{toFile(2, 2, 5), toEntry(3, "g", 2)})
	wantOf(t, tree, link("/f", "/a"), step{toEntry(1, "a", 2), toFile(2, 2, 5)})
	two := fresh(t, 4, create("/f"), write("/f", 0, "abcde"), mkdir("/d"), link("/f", "/d/g"))
	wantOf(t, two, unlink("/d/g"), step{toFile(2, 1, 5), gone(entryKey(3, "g"))})
	wantOf(t, two, unlink("/f"), step{gone(entryKey(1, "f")), toFile(2, 1, 5)})
	// With the last name the node and its pieces are gone; what is all noughts was
	// none.
	wantOf(t, tree, unlink("/f"), step{gone(entryKey(1, "f")), gone(nodeKey(2)), gone(pieceKey(2, 0)), gone(pieceKey(2, 1))})
	holes := fresh(t, 4, create("/f"), write("/f", 9, "x"), write("/f", 31, "y"))
	wantOf(t, holes, unlink("/f"), step{gone(entryKey(1, "f")), gone(nodeKey(2)), gone(pieceKey(2, 2)), gone(pieceKey(2, 7))})
	full := fresh(t, 1, create("/f"), write("/f", 0, "abcdefgh"))
	want := step{gone(entryKey(1, "f")), gone(nodeKey(2))}
	for chunk := range 8 {
		want = append(want, gone(pieceKey(2, chunk)))
	}
	wantOf(t, full, unlink("/f"), want)
}

func TestRename(t *testing.T) {
	tree := fresh(t, 4, create("/f"), mkdir("/d"), create("/d/g"), write("/d/g", 0, "x"), mkdir("/e"))
	wantOf(t, tree, rename("/f", "/a"), step{toEntry(1, "a", 2), gone(entryKey(1, "f"))})
	wantOf(t, tree, rename("/f", "/h"), step{gone(entryKey(1, "f")), toEntry(1, "h", 2)})
	wantOf(t, tree, rename("/f", "/d/f"), step{gone(entryKey(1, "f")), toEntry(3, "f", 2)})
	wantOf(t, tree, rename("/d/g", "/a"), step{toEntry(1, "a", 4), gone(entryKey(3, "g"))})
	// A directory goes with all that is in it.
	wantOf(t, tree, rename("/d", "/e/d"), step{gone(entryKey(1, "d")), toEntry(5, "d", 3)})
	wantOf(t, tree, rename("/d", "/e"), step{gone(entryKey(1, "d")), toEntry(1, "e", 3), gone(nodeKey(5))})
	// A file that was there, with no other name.
	wantOf(t, tree, rename("/f", "/d/g"), step{
		gone(entryKey(1, "f")), toEntry(3, "g", 2), gone(nodeKey(4)), gone(pieceKey(4, 0)),
	})
	wantOf(t, tree, rename("/d/g", "/f"), step{toEntry(1, "f", 4), gone(nodeKey(2)), gone(entryKey(3, "g"))})
	// And with another one, which it keeps.
	more := fresh(t, 4, create("/f"), mkdir("/d"), create("/d/g"), write("/d/g", 0, "x"), link("/d/g", "/z"))
	wantOf(t, more, rename("/f", "/d/g"), step{gone(entryKey(1, "f")), toEntry(3, "g", 2), toFile(4, 1, 1)})
	wantOf(t, more, rename("/f", "/z"), step{gone(entryKey(1, "f")), toEntry(1, "z", 2), toFile(4, 1, 1)})
	wantOf(t, more, rename("/z", "/f"), step{toEntry(1, "f", 4), gone(entryKey(1, "z")), gone(nodeKey(2))})
}

// The greatest step in which no piece is written.
func TestGreatestRename(t *testing.T) {
	for _, piece := range []int{1, 32, 255} {
		const name, other = "/abcdefghijkl", "/mnopqrstuvwx"
		tree := fresh(t, piece, create(name), create(other), write(other, 0, strings.Repeat("x", 8*piece)))
		got, _, _ := steps.Of(tree, rename(name, other))
		want := step{gone(entryKey(1, name[1:])), toEntry(1, other[1:], 2), gone(nodeKey(3))}
		for chunk := range 8 {
			want = append(want, gone(pieceKey(3, chunk)))
		}
		wantOf(t, tree, rename(name, other), want)
		if n := steps.Cost(got); n != 82 {
			t.Errorf("pieces of %d: Cost = %d; want 82", piece, n)
		}
	}
}

func TestChangesNothing(t *testing.T) {
	tree := fresh(t, 4, create("/f"), link("/f", "/g"), mkdir("/d"), write("/f", 0, "abcdefghij\x00\x00\x00\x00"))
	for _, a := range []api.Act{
		rename("/f", "/g"), rename("/g", "/f"), rename("/f", "/f"),
		write("/f", 0, ""), write("/f", 3, ""), write("/f", 14, ""), write("/f", 20, ""), write("/f", 33, ""), write("/f", math.MaxInt, ""),
		write("/f", 0, "abcdefghij\x00\x00\x00\x00"), write("/g", 3, "defg"), write("/f", 9, "j"), write("/f", 10, "\x00\x00"), write("/f", 7, "hij\x00\x00\x00\x00"),
		cutTo("/f", 14), {Kind: api.ActRead, Path: "/f", N: 9}, {Kind: api.ActStat, Path: "/f"}, {Kind: api.ActList, Path: "/"},
		{Kind: api.ActRead, Path: "/g", At: 3, N: math.MaxInt}, {Kind: api.ActStat, Path: "/d"}, {Kind: api.ActList, Path: "/d"},
	} {
		if _, _, answer := steps.Of(tree, a); answer.E != api.OK {
			t.Errorf("Of(.., %+v): %+v", a, answer)
		}
		wantNone(t, tree, a)
	}
}

func TestRefuses(t *testing.T) {
	tree := fresh(t, 4, create("/f"), mkdir("/d"), create("/d/g"), write("/f", 0, "abcde"), mkdir("/e"))
	for _, x := range []struct {
		a api.Act
		e api.Errno
	}{
		{api.Act{}, api.ErrArg}, {api.Act{Kind: api.ActSync}, api.ErrArg}, {api.Act{Kind: 255, Path: "/f"}, api.ErrArg},
		{create("f"), api.ErrArg}, {create(""), api.ErrArg}, {create("/a/b/c/d/e/f/g"), api.ErrLimit},
		{create("/f"), api.ErrTwice}, {mkdir("/"), api.ErrTwice}, {create("/no/x"), api.ErrNone}, {mkdir("/f/x"), api.ErrKind},
		{rmdir("/no"), api.ErrNone}, {rmdir("/f"), api.ErrKind}, {rmdir("/"), api.ErrArg}, {rmdir("/d"), api.ErrBusy},
		{link("/d", "/x"), api.ErrKind}, {link("/f", "/d/g"), api.ErrTwice}, {unlink("/no"), api.ErrNone}, {unlink("/d"), api.ErrKind},
		{rename("/d", "/d/x"), api.ErrArg}, {rename("/", "/x"), api.ErrArg}, {rename("/f", "/d"), api.ErrKind}, {rename("/e", "/d"), api.ErrBusy},
		{write("/no", 0, "x"), api.ErrNone}, {write("/d", 0, "x"), api.ErrKind}, {write("/f", -1, "x"), api.ErrArg},
		{write("/f", 32, "x"), api.ErrLimit}, {write("/f", 31, "xy"), api.ErrLimit}, {write("/f", 0, strings.Repeat("x", 33)), api.ErrLimit},
		{write("/f", math.MaxInt, "x"), api.ErrLimit}, {write("/f", math.MinInt, "x"), api.ErrArg},
		{api.Act{Kind: api.ActWrite, Path: "/f", N: -1, Bytes: []byte("xyzuvw")}, api.ErrArg},
		{cutTo("/f", -1), api.ErrArg}, {cutTo("/f", 33), api.ErrLimit}, {cutTo("/d", 1), api.ErrKind}, {cutTo("/no", 1), api.ErrNone},
		{api.Act{Kind: api.ActRead, Path: "/d"}, api.ErrKind}, {api.Act{Kind: api.ActStat, Path: "/no"}, api.ErrNone}, {api.Act{Kind: api.ActList, Path: "/f"}, api.ErrKind},
	} {
		if _, _, answer := steps.Of(tree, x.a); answerText(answer) != answerText(api.Answer{E: x.e}) {
			t.Errorf("Of(.., %+v): %+v; want %d", x.a, answer, x.e)
		}
		wantNone(t, tree, x.a)
	}
}

// notTrees are trees that are not right.
func notTrees() map[string]api.Tree {
	root := api.Inode{Ino: 1, Kind: api.Dir, Links: 1}
	return map[string]api.Tree{
		"nothing":            {},
		"no nodes":           {Piece: 4},
		"no piece":           {Nodes: []api.Inode{root}},
		"a piece of 256":     {Piece: 256, Nodes: []api.Inode{root}},
		"a piece below 0":    {Piece: -1, Nodes: []api.Inode{root}},
		"a node by itself":   {Piece: 4, Nodes: []api.Inode{root, {Ino: 2, Kind: api.File, Links: 1}}},
		"an entry of none":   {Piece: 4, Nodes: []api.Inode{{Ino: 1, Kind: api.Dir, Links: 1, Names: []api.Name{{Name: "a", Ino: 2}}}}},
		"a file as a root":   {Piece: 4, Nodes: []api.Inode{{Ino: 1, Kind: api.File, Links: 1}}},
		"too many bytes":     {Piece: 1, Nodes: []api.Inode{{Ino: 1, Kind: api.Dir, Links: 1, Names: []api.Name{{Name: "a", Ino: 2}}}, {Ino: 2, Kind: api.File, Links: 1, Bytes: []byte("123456789")}}},
		"the root in itself": {Piece: 4, Nodes: []api.Inode{{Ino: 1, Kind: api.Dir, Links: 1, Names: []api.Name{{Name: "a", Ino: 1}}}}},
	}
}

func TestNotTrees(t *testing.T) {
	good := fresh(t, 4, create("/f"))
	for what, tree := range notTrees() {
		for kind := range 256 {
			a := api.Act{Kind: api.ActKind(kind), Path: "/a", To: "/b", N: 1, Bytes: []byte("xyzuvw")}
			got, behind, answer := steps.Of(tree, a)
			if len(got) != 0 || text(behind) != text(tree) || answerText(answer) != answerText(api.Answer{E: api.ErrForm}) {
				t.Errorf("%s: Of(.., %+v) = %s, %s, %+v", what, a, stepsText(got), text(behind), answer)
			}
		}
		for _, got := range []step{steps.Between(tree, good), steps.Between(good, tree), steps.Between(tree, tree)} {
			if len(got) != 0 {
				t.Errorf("%s: Between = %s", what, stepText(got))
			}
		}
	}
}

// A tree with an Ino that no key may have has no facts, and so no step makes
// anything of them; its act is done all the same.
func TestInoThatNoKeyHas(t *testing.T) {
	tree := api.Tree{Piece: 2, Nodes: []api.Inode{
		{Ino: 1, Kind: api.Dir, Links: 1, Names: []api.Name{{Name: "a", Ino: 65536}}}, {Ino: 65536, Kind: api.File, Links: 1},
	}}
	for _, a := range []api.Act{create("/b"), unlink("/a"), write("/a", 0, "abcde"), cutTo("/a", 1)} {
		got, behind, answer := steps.Of(tree, a)
		want, wantAnswer := model.Do(tree, a)
		if len(got) != 0 || text(behind) != text(want) || answerText(answer) != answerText(wantAnswer) || answer.E != api.OK {
			t.Errorf("Of(.., %+v) = %s, %s, %+v", a, stepsText(got), text(behind), answer)
		}
	}
	tree.Nodes[0].Names[0].Ino, tree.Nodes[1].Ino = 65535, 65535
	wantOf(t, tree, write("/a", 1, "xy"), step{toFile(65535, 1, 2), toPiece(65535, 0, "\x00x")}, step{toFile(65535, 1, 3), toPiece(65535, 1, "y")})
}

// P9.1: Between.

func TestBetween(t *testing.T) {
	empty := fresh(t, 4)
	one := fresh(t, 4, create("/f"), write("/f", 0, "abcdefghi"))
	other := fresh(t, 4, mkdir("/d"), create("/f"), write("/f", 0, "abcdEfgh\x00jkl\x00m"))
	for _, x := range []struct {
		t, u api.Tree
		want step
	}{
		{empty, empty, nil}, {one, one, nil}, {other, other, nil},
		{empty, one, step{toEntry(1, "f", 2), toFile(2, 1, 9), toPiece(2, 0, "abcd"), toPiece(2, 1, "efgh"), toPiece(2, 2, "i")}},
		{one, empty, step{gone(entryKey(1, "f")), gone(nodeKey(2)), gone(pieceKey(2, 0)), gone(pieceKey(2, 1)), gone(pieceKey(2, 2))}},
		{one, other, step{
			toEntry(1, "d", 2), toEntry(1, "f", 3), toDir(2), gone(pieceKey(2, 0)), gone(pieceKey(2, 1)), gone(pieceKey(2, 2)),
			toFile(3, 1, 14), toPiece(3, 0, "abcd"), toPiece(3, 1, "Efgh"), toPiece(3, 2, "\x00jkl"), toPiece(3, 3, "\x00m"),
		}},
		{other, one, step{
			gone(entryKey(1, "d")), toEntry(1, "f", 2), toFile(2, 1, 9), toPiece(2, 0, "abcd"), toPiece(2, 1, "efgh"), toPiece(2, 2, "i"),
			gone(nodeKey(3)), gone(pieceKey(3, 0)), gone(pieceKey(3, 1)), gone(pieceKey(3, 2)), gone(pieceKey(3, 3)),
		}},
	} {
		if got := steps.Between(x.t, x.u); stepText(got) != stepText(x.want) {
			t.Errorf("Between(%s, %s) = %s; want %s", text(x.t), text(x.u), stepText(got), stepText(x.want))
		}
	}
}

// A value that changes, by itself; a fact more; a fact less.
func TestBetweenOne(t *testing.T) {
	tree := fresh(t, 4, create("/f"), write("/f", 0, "abcdefgh"), create("/g"), link("/g", "/h"))
	for _, x := range []struct {
		change func(u *api.Tree)
		want   api.Change
	}{
		{func(u *api.Tree) { u.Nodes[1].Bytes[6] = 'X' }, toPiece(2, 1, "efXh")},
		{func(u *api.Tree) { u.Nodes[1].Bytes[7] = 0 }, toPiece(2, 1, "efg")},
		{func(u *api.Tree) { clear(u.Nodes[1].Bytes[:4]) }, gone(pieceKey(2, 0))},
		{func(u *api.Tree) { clear(u.Nodes[1].Bytes[4:]) }, gone(pieceKey(2, 1))},
		{func(u *api.Tree) { u.Nodes[1].Bytes = append(u.Nodes[1].Bytes, 0) }, toFile(2, 1, 9)},
	} {
		u := copied(tree)
		x.change(&u)
		if got := steps.Between(tree, u); stepText(got) != stepText(step{x.want}) {
			t.Errorf("Between(%s, %s) = %s; want %s", text(tree), text(u), stepText(got), stepText(step{x.want}))
		}
		back := plainBetween(u, tree)
		if got := steps.Between(u, tree); stepText(got) != stepText(back) || len(back) != 1 {
			t.Errorf("Between(%s, %s) = %s; want %s", text(u), text(tree), stepText(got), stepText(back))
		}
	}
}

// P9.2: Cost.

func TestCost(t *testing.T) {
	good := []struct {
		c api.Change
		n int
	}{
		{gone(nodeKey(1)), 1 + 3}, {gone(entryKey(1, "a")), 1 + 5}, {gone(entryKey(65535, "abcdefghijkl")), 1 + 16}, {gone(pieceKey(300, 7)), 1 + 4},
		{to(nodeKey(1), "1234"), 1 + 3 + 1 + 4}, {toEntry(1, "ab", 2), 1 + 6 + 1 + 2}, {toPiece(2, 0, "x"), 1 + 4 + 1 + 1},
		{toPiece(2, 7, strings.Repeat("x", 255)), 1 + 4 + 1 + 255}, {to(nodeKey(2), ""), 1 + 3 + 1},
		// What is gone has no value, whatever stands there.
		{api.Change{Key: nodeKey(1), Value: []byte("1234"), Gone: true}, 1 + 3},
		// A key that may not be has no bytes.
		{gone(api.Key{}), 1}, {gone(pieceKey(1, 8)), 1}, {to(entryKey(1, "A"), "xyz"), 1 + 1 + 3}, {to(nodeKey(65536), strings.Repeat("x", 1000)), 1 + 1 + 1000},
	}
	wantCost(t, 0)
	wantCost(t, 1, nil)
	wantCost(t, 1, step{})
	wantCost(t, 1, step{}, nil, step{})
	sum, all := 1, step{}
	for _, x := range good {
		wantCost(t, 1+x.n, step{x.c})
		wantCost(t, 1+x.n, nil, step{x.c}, nil)
		wantCost(t, 1+2*x.n, step{x.c}, step{x.c, x.c}, step{x.c})
		sum += x.n
		all = append(all, x.c)
	}
	wantCost(t, sum, all)
	wantCost(t, sum, all, all)
	for _, x := range good {
		for _, y := range good {
			wantCost(t, 1+max(x.n, y.n), step{x.c}, step{y.c})
			wantCost(t, 1+x.n+y.n, step{x.c, y.c}, step{y.c})
			wantCost(t, 1+x.n+y.n, step{y.c}, step{x.c, y.c})
		}
	}
	if n := steps.Cost(nil); n != 0 {
		t.Errorf("Cost(nil) = %d", n)
	}
}

func wantCost(t *testing.T, want int, l ...step) {
	t.Helper()
	if n := steps.Cost(l); n != want {
		t.Errorf("Cost(%s) = %d; want %d", stepsText(l), n, want)
	}
}

// A way that goes on through all kinds of acts.
func TestOneBehindTheOther(t *testing.T) {
	tree := fresh(t, 3)
	for i, a := range []api.Act{
		mkdir("/d"), create("/d/f"), write("/d/f", 1, "abcdefg"), link("/d/f", "/g"), cutTo("/g", 4), rename("/d", "/e"), create("/h"),
		rename("/h", "/g"), write("/e/f", 2, "\x00\x00\x00"), unlink("/e/f"), rmdir("/e"), cutTo("/g", 24), unlink("/g"),
	} {
		want := plainSteps(tree, a)
		if len(want) == 0 {
			t.Errorf("the act %d has no step", i)
		}
		wantOf(t, tree, a, want...)
		tree, _ = model.Do(tree, a)
	}
	if want := fmt.Sprint(text(fresh(t, 3))); text(tree) != want {
		t.Errorf("%s is left; want %s", text(tree), want)
	}
}
