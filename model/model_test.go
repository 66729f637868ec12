package model_test

import (
	"bytes"
	"fmt"
	"math"
	"slices"
	"strings"
	"testing"

	"carrack/api"
	"carrack/model"
)

// Acts, in short.

func mkdir(s string) api.Act      { return api.Act{Kind: api.ActMkdir, Path: s} }
func create(s string) api.Act     { return api.Act{Kind: api.ActCreate, Path: s} }
func rmdir(s string) api.Act      { return api.Act{Kind: api.ActRmdir, Path: s} }
func link(s, to string) api.Act   { return api.Act{Kind: api.ActLink, Path: s, To: to} }
func unlink(s string) api.Act     { return api.Act{Kind: api.ActUnlink, Path: s} }
func rename(s, to string) api.Act { return api.Act{Kind: api.ActRename, Path: s, To: to} }
func stat(s string) api.Act       { return api.Act{Kind: api.ActStat, Path: s} }
func list(s string) api.Act       { return api.Act{Kind: api.ActList, Path: s} }
func cut(s string, n int) api.Act { return api.Act{Kind: api.ActCut, Path: s, N: n} }
func read(s string, at, n int) api.Act {
	return api.Act{Kind: api.ActRead, Path: s, At: at, N: n}
}
func write(s string, at int, b string) api.Act {
	return api.Act{Kind: api.ActWrite, Path: s, At: at, Bytes: []byte(b)}
}

// lastAct is the last of the table, and the first behind it goes to no tree.
const lastAct = api.ActList

// notActs are kinds that are none of the table.
var notActs = []api.ActKind{api.NoAct, api.ActSync, api.ActSync + 1, 100, 127, 128, 254, 255}

// actsAt answers one act of each kind on the path, and of those with two paths
// with each of both, the other one a good one.
func actsAt(s string) []api.Act {
	return []api.Act{
		mkdir(s), create(s), rmdir(s), unlink(s), stat(s), list(s), cut(s, 1), read(s, 0, 1), write(s, 0, "x"),
		link(s, "/free"), rename(s, "/free"), link("/f", s), rename("/f", s), rename("/e", s),
	}
}

// fresh answers a new tree on which the acts were done.
func fresh(t *testing.T, piece int, acts ...api.Act) api.Tree {
	t.Helper()
	tree, e := model.New(piece)
	if e != api.OK {
		t.Fatalf("New(%d): %d", piece, e)
	}
	return after(t, tree, acts...)
}

// after answers the tree on which the acts were done, none of which refuses.
func after(t *testing.T, tree api.Tree, acts ...api.Act) api.Tree {
	t.Helper()
	for _, a := range acts {
		behind, answer := model.Do(tree, a)
		if answer.E != api.OK {
			t.Fatalf("Do(%s, %+v) = %+v", text(tree), a, answer)
		}
		tree = behind
	}
	return tree
}

// wantDo: the act answers so, and the tree behind it tells this text.
func wantDo(t *testing.T, tree api.Tree, a api.Act, want api.Answer, behind string) api.Tree {
	t.Helper()
	got, answer := model.Do(tree, a)
	if !sameAnswer(answer, want) || text(got) != behind {
		t.Errorf("Do(%s, %+v) = %s, %+v; want %s, %+v", text(tree), a, text(got), answer, behind, want)
	}
	return got
}

// wantLook: the act answers so, and changes nothing.
func wantLook(t *testing.T, tree api.Tree, a api.Act, want api.Answer) {
	t.Helper()
	wantDo(t, tree, a, want, text(tree))
}

// wantError: nothing but the error is answered, and the tree is as it was.
func wantError(t *testing.T, tree api.Tree, a api.Act, e api.Errno) {
	t.Helper()
	wantLook(t, tree, a, api.Answer{E: e})
}

func wantRead(t *testing.T, tree api.Tree, s string, at, n int, want string) {
	t.Helper()
	wantLook(t, tree, read(s, at, n), api.Answer{Bytes: []byte(want)})
}

func wantBytes(t *testing.T, tree api.Tree, s, want string) {
	t.Helper()
	wantRead(t, tree, s, 0, math.MaxInt, want)
	_, answer := model.Do(tree, stat(s))
	if answer.Node.Size != len(want) {
		t.Errorf("Do(%s, Stat %s): size %d; want %d", text(tree), s, answer.Node.Size, len(want))
	}
}

func wantRight(t *testing.T, tree api.Tree, ok bool) {
	t.Helper()
	if got := model.Right(tree); got != ok {
		t.Errorf("Right(%s) = %v", text(tree), got)
	}
}

// some is a tree with a bit of all: a file g with two names, f and e/f2.
func some(t *testing.T) api.Tree {
	t.Helper()
	return fresh(t, 4,
		mkdir("/d"), create("/f"), mkdir("/e"), mkdir("/d/s"), create("/d/h"),
		create("/g"), link("/g", "/e/g2"), write("/g", 0, "bytes of g"), write("/f", 1, "ff"), mkdir("/d/s/t"))
}

const someText = `piece 4; 1 dir 1 d=2 e=4 f=3 g=7; 2 dir 1 h=6 s=5; 3 file 1 "\x00ff"; 4 dir 1 g2=7; 5 dir 1 t=8; 6 file 1; 7 file 2 "bytes of g"; 8 dir 1`

// The chapter's examples.

func TestExampleOfBytes(t *testing.T) {
	tree := fresh(t, 32)
	tree = wantDo(t, tree, create("/a"), api.Answer{Ino: 2}, "piece 32; 1 dir 1 a=2; 2 file 1")
	tree = wantDo(t, tree, mkdir("/d"), api.Answer{Ino: 3}, "piece 32; 1 dir 1 a=2 d=3; 2 file 1; 3 dir 1")
	tree = wantDo(t, tree, link("/a", "/d/b"), api.Answer{}, "piece 32; 1 dir 1 a=2 d=3; 2 file 2; 3 dir 1 b=2")
	tree = wantDo(t, tree, write("/d/b", 2, "xy"), api.Answer{N: 2}, `piece 32; 1 dir 1 a=2 d=3; 2 file 2 "\x00\x00xy"; 3 dir 1 b=2`)
	wantRead(t, tree, "/a", 0, 9, "\x00\x00xy")
	tree = wantDo(t, tree, unlink("/a"), api.Answer{}, `piece 32; 1 dir 1 d=3; 2 file 1 "\x00\x00xy"; 3 dir 1 b=2`)
	wantLook(t, tree, stat("/d/b"), api.Answer{Ino: 2, Node: api.Node{Kind: api.File, Links: 1, Size: 4}})
}

func TestExampleOfNames(t *testing.T) {
	tree := fresh(t, 32, mkdir("/d"), create("/d/b"))
	wantError(t, tree, rename("/d", "/d/e"), api.ErrArg)
	wantError(t, tree, rmdir("/d"), api.ErrBusy)
	tree = wantDo(t, tree, rename("/d/b", "/c"), api.Answer{}, "piece 32; 1 dir 1 c=3 d=2; 2 dir 1; 3 file 1")
	tree = wantDo(t, tree, rmdir("/d"), api.Answer{}, "piece 32; 1 dir 1 c=3; 3 file 1")
	wantLook(t, tree, rename("/c", "/c"), api.Answer{})
}

// P7.1: New.

func TestNew(t *testing.T) {
	for piece := -3; piece <= 600; piece++ {
		tree, e := model.New(piece)
		switch {
		case piece >= 1 && piece <= 255:
			if want := fmt.Sprintf("piece %d; 1 dir 1", piece); e != api.OK || text(tree) != want || !model.Right(tree) {
				t.Errorf("New(%d) = %s, %d", piece, text(tree), e)
			}
		default:
			wantNoTree(t, piece)
		}
	}
	for _, piece := range []int{math.MinInt, -256, -255, -1, 0, 256, 257, 511, 1 << 16, 1<<16 + 1, 1<<32 + 1, math.MaxInt} {
		wantNoTree(t, piece)
	}
}

func wantNoTree(t *testing.T, piece int) {
	t.Helper()
	tree, e := model.New(piece)
	if e != api.ErrArg || tree.Piece != 0 || len(tree.Nodes) != 0 {
		t.Errorf("New(%d) = %s, %d; want ErrArg", piece, text(tree), e)
	}
}

func TestNewTreeIsEmpty(t *testing.T) {
	tree := fresh(t, 1)
	wantLook(t, tree, stat("/"), api.Answer{Ino: 1, Node: api.Node{Kind: api.Dir, Links: 1}})
	wantLook(t, tree, list("/"), api.Answer{})
	wantError(t, tree, stat("/a"), api.ErrNone)
}

// P7.1: Do, each act.

func TestSome(t *testing.T) {
	if tree := some(t); text(tree) != someText {
		t.Errorf("some is %s", text(tree))
	}
}

func TestMkdirCreate(t *testing.T) {
	for _, x := range []struct {
		act  func(string) api.Act
		kind string
	}{{mkdir, "dir"}, {create, "file"}} {
		tree := some(t)
		for s, e := range map[string]api.Errno{
			"/": api.ErrTwice, "/d": api.ErrTwice, "/f": api.ErrTwice, "/d/s": api.ErrTwice, "/d/h": api.ErrTwice, "/e/g2": api.ErrTwice,
			"/no/a": api.ErrNone, "/d/no/a": api.ErrNone, "/d/no/a/b": api.ErrNone, "/no/no/no/no/no/no": api.ErrNone,
			"/f/a": api.ErrKind, "/d/h/a": api.ErrKind, "/f/a/b/c": api.ErrKind, "/e/g2/a": api.ErrKind,
		} {
			wantError(t, tree, x.act(s), e)
		}
		wantDo(t, tree, x.act("/d/s/a"), api.Answer{Ino: 9}, strings.Replace(someText, "t=8", "a=9 t=8", 1)+"; 9 "+x.kind+" 1")
		wantDo(t, tree, x.act("/c"), api.Answer{Ino: 9}, strings.Replace(someText, "d=2", "c=9 d=2", 1)+"; 9 "+x.kind+" 1")
		wantDo(t, tree, x.act("/z"), api.Answer{Ino: 9}, strings.Replace(someText, "g=7", "g=7 z=9", 1)+"; 9 "+x.kind+" 1")
		wantDo(t, tree, x.act("/e/g"), api.Answer{Ino: 9}, strings.Replace(someText, "g2=7", "g=9 g2=7", 1)+"; 9 "+x.kind+" 1")
	}
}

// Names stand in the order of their bytes, whichever came first.
func TestNamesInOrder(t *testing.T) {
	l := []string{"-", ".a", "0", "9", "a", "a-", "a.", "a0", "aa", "abcdefghijkl", "b", "zz"}
	for turn := range l {
		tree := fresh(t, 1, mkdir("/x"))
		for i := range l {
			tree = after(t, tree, create("/x/"+l[(i*5+turn)%len(l)]))
		}
		wantLook(t, tree, list("/x"), api.Answer{Names: l})
		wantRight(t, tree, true)
	}
}

// A node that is made has the least Ino that no node has.
func TestLeastFreeIno(t *testing.T) {
	tree := fresh(t, 1, create("/a"), mkdir("/b"), create("/c"), create("/d"), link("/c", "/c2"))
	tree = after(t, tree, unlink("/c"))
	tree = wantDo(t, tree, create("/e"), api.Answer{Ino: 6}, "piece 1; 1 dir 1 a=2 b=3 c2=4 d=5 e=6; 2 file 1; 3 dir 1; 4 file 1; 5 file 1; 6 file 1")
	tree = after(t, tree, unlink("/c2"), unlink("/a"), unlink("/e"))
	tree = wantDo(t, tree, mkdir("/m"), api.Answer{Ino: 2}, "piece 1; 1 dir 1 b=3 d=5 m=2; 2 dir 1; 3 dir 1; 5 file 1")
	tree = wantDo(t, tree, create("/m/n"), api.Answer{Ino: 4}, "piece 1; 1 dir 1 b=3 d=5 m=2; 2 dir 1 n=4; 3 dir 1; 4 file 1; 5 file 1")
	tree = after(t, tree, rmdir("/b"), create("/o"))
	wantLook(t, tree, stat("/o"), api.Answer{Ino: 3, Node: api.Node{Kind: api.File, Links: 1}})
	tree = wantDo(t, tree, create("/p"), api.Answer{Ino: 6}, "piece 1; 1 dir 1 d=5 m=2 o=3 p=6; 2 dir 1 n=4; 3 file 1; 4 file 1; 5 file 1; 6 file 1")
	tree = after(t, tree, rename("/d", "/o"))
	wantDo(t, tree, create("/q"), api.Answer{Ino: 3}, "piece 1; 1 dir 1 m=2 o=5 p=6 q=3; 2 dir 1 n=4; 3 file 1; 4 file 1; 5 file 1; 6 file 1")
}

// Inos that nobody made, far from one another, are right too.
func TestFarInos(t *testing.T) {
	tree := api.Tree{Piece: 2, Nodes: []api.Inode{
		{Ino: 1, Kind: api.Dir, Links: 1, Names: []api.Name{{Name: "a", Ino: 40000}, {Name: "b", Ino: 3}}},
		{Ino: 3, Kind: api.File, Links: 2, Bytes: []byte("b")},
		{Ino: 40000, Kind: api.Dir, Links: 1, Names: []api.Name{{Name: "c", Ino: 3}}},
	}}
	wantRight(t, tree, true)
	tree = wantDo(t, tree, create("/a/d"), api.Answer{Ino: 2}, `piece 2; 1 dir 1 a=40000 b=3; 2 file 1; 3 file 2 "b"; 40000 dir 1 c=3 d=2`)
	tree = wantDo(t, tree, create("/a/e"), api.Answer{Ino: 4}, `piece 2; 1 dir 1 a=40000 b=3; 2 file 1; 3 file 2 "b"; 4 file 1; 40000 dir 1 c=3 d=2 e=4`)
	wantLook(t, tree, stat("/a"), api.Answer{Ino: 40000, Node: api.Node{Kind: api.Dir, Links: 1}})
}

func TestRmdir(t *testing.T) {
	tree := some(t)
	for s, e := range map[string]api.Errno{
		"/": api.ErrArg, "/no": api.ErrNone, "/d/no": api.ErrNone, "/no/no": api.ErrNone, "/f": api.ErrKind, "/g": api.ErrKind, "/e/g2": api.ErrKind,
		"/f/a": api.ErrKind, "/d": api.ErrBusy, "/e": api.ErrBusy, "/d/s": api.ErrBusy,
	} {
		wantError(t, tree, rmdir(s), e)
	}
	wantError(t, fresh(t, 4), rmdir("/"), api.ErrArg)
	tree = wantDo(t, tree, rmdir("/d/s/t"), api.Answer{}, strings.Replace(strings.Replace(someText, " t=8", "", 1), "; 8 dir 1", "", 1))
	tree = after(t, tree, rmdir("/d/s"), unlink("/d/h"), rmdir("/d"))
	if want := `piece 4; 1 dir 1 e=4 f=3 g=7; 3 file 1 "\x00ff"; 4 dir 1 g2=7; 7 file 2 "bytes of g"`; text(tree) != want {
		t.Errorf("behind Rmdir: %s; want %s", text(tree), want)
	}
}

func TestLink(t *testing.T) {
	tree := some(t)
	for _, x := range []struct {
		s, to string
		e     api.Errno
	}{
		{"/no", "/x", api.ErrNone}, {"/no", "/f", api.ErrNone}, {"/no", "/", api.ErrNone}, {"/no/no", "/x", api.ErrNone}, {"/f", "/no/x", api.ErrNone},
		{"/", "/x", api.ErrKind}, {"/", "/", api.ErrKind}, {"/d", "/x", api.ErrKind}, {"/d", "/f", api.ErrKind}, {"/d", "/d", api.ErrKind}, {"/d", "/d/x", api.ErrKind}, {"/f/x", "/x", api.ErrKind},
		{"/f", "/g/x", api.ErrKind}, {"/f", "/f/x", api.ErrKind},
		{"/f", "/", api.ErrTwice}, {"/f", "/f", api.ErrTwice}, {"/g", "/e/g2", api.ErrTwice}, {"/f", "/g", api.ErrTwice}, {"/f", "/d", api.ErrTwice}, {"/f", "/d/s/t", api.ErrTwice},
	} {
		wantError(t, tree, link(x.s, x.to), x.e)
	}
	behind := strings.Replace(strings.Replace(someText, "g=7", "g=7 x=7", 1), "7 file 2", "7 file 3", 1)
	wantDo(t, tree, link("/g", "/x"), api.Answer{}, behind)
	wantDo(t, tree, link("/e/g2", "/x"), api.Answer{}, behind)
	behind = strings.Replace(strings.Replace(someText, "h=6", "a=3 h=6", 1), "3 file 1", "3 file 2", 1)
	wantDo(t, tree, link("/f", "/d/a"), api.Answer{}, behind)
}

func TestUnlink(t *testing.T) {
	tree := some(t)
	for s, e := range map[string]api.Errno{
		"/no": api.ErrNone, "/d/no": api.ErrNone, "/no/no": api.ErrNone, "/": api.ErrKind, "/d": api.ErrKind, "/d/s/t": api.ErrKind, "/f/x": api.ErrKind,
	} {
		wantError(t, tree, unlink(s), e)
	}
	tree = wantDo(t, tree, unlink("/g"), api.Answer{}, strings.Replace(strings.Replace(someText, " g=7", "", 1), "7 file 2", "7 file 1", 1))
	wantBytes(t, tree, "/e/g2", "bytes of g")
	tree = wantDo(t, tree, unlink("/e/g2"), api.Answer{}, `piece 4; 1 dir 1 d=2 e=4 f=3; 2 dir 1 h=6 s=5; 3 file 1 "\x00ff"; 4 dir 1; 5 dir 1 t=8; 6 file 1; 8 dir 1`)
	// What is made anew in its stead has none of its bytes.
	tree = after(t, tree, create("/new"))
	wantLook(t, tree, stat("/new"), api.Answer{Ino: 7, Node: api.Node{Kind: api.File, Links: 1}})
	wantBytes(t, tree, "/new", "")
}

func TestStatList(t *testing.T) {
	tree := some(t)
	for s, want := range map[string]api.Answer{
		"/":      {Ino: 1, Node: api.Node{Kind: 1, Links: 1}},
		"/d":     {Ino: 2, Node: api.Node{Kind: 1, Links: 1}},
		"/d/s/t": {Ino: 8, Node: api.Node{Kind: 1, Links: 1}},
		"/f":     {Ino: 3, Node: api.Node{Kind: 2, Links: 1, Size: 3}},
		"/d/h":   {Ino: 6, Node: api.Node{Kind: 2, Links: 1}},
		"/g":     {Ino: 7, Node: api.Node{Kind: 2, Links: 2, Size: 10}},
		"/e/g2":  {Ino: 7, Node: api.Node{Kind: 2, Links: 2, Size: 10}},
		"/no":    {E: api.ErrNone},
		"/d/no":  {E: api.ErrNone},
		"/no/no": {E: api.ErrNone},
		"/f/x":   {E: api.ErrKind},
		"/d/h/x": {E: api.ErrKind},
	} {
		wantLook(t, tree, stat(s), want)
	}
	for s, want := range map[string]api.Answer{
		"/":      {Names: []string{"d", "e", "f", "g"}},
		"/d":     {Names: []string{"h", "s"}},
		"/e":     {Names: []string{"g2"}},
		"/d/s/t": {},
		"/f":     {E: api.ErrKind},
		"/e/g2":  {E: api.ErrKind},
		"/no":    {E: api.ErrNone},
		"/no/no": {E: api.ErrNone},
		"/f/x":   {E: api.ErrKind},
	} {
		wantLook(t, tree, list(s), want)
	}
}

// P7.1: ActRename.

func TestRenameRefused(t *testing.T) {
	tree := some(t)
	for _, x := range []struct {
		s, to string
		e     api.Errno
	}{
		{"/no", "/x", api.ErrNone}, {"/no", "/", api.ErrNone}, {"/no", "/no", api.ErrNone}, {"/no", "/f", api.ErrNone}, {"/no", "/no/x", api.ErrNone}, {"/no/no", "/x", api.ErrNone}, {"/f", "/no/x", api.ErrNone},
		{"/", "/x", api.ErrArg}, {"/", "/", api.ErrArg}, {"/", "/f", api.ErrArg}, {"/", "/d/x", api.ErrArg}, {"/", "/no/x", api.ErrNone}, {"/", "/f/x", api.ErrKind},
		{"/f", "/", api.ErrArg}, {"/d", "/", api.ErrArg}, {"/d/s", "/", api.ErrArg},
		{"/d", "/d/x", api.ErrArg}, {"/d", "/d/h", api.ErrArg}, {"/d", "/d/s", api.ErrArg}, {"/d", "/d/s/t", api.ErrArg}, {"/d", "/d/s/t/x", api.ErrArg}, {"/d", "/d/no/x", api.ErrNone}, {"/d", "/d/h/x", api.ErrKind},
		{"/f", "/f/x", api.ErrKind}, {"/f", "/g/x", api.ErrKind}, {"/f/x", "/x", api.ErrKind},
		{"/f", "/d", api.ErrKind}, {"/f", "/d/s/t", api.ErrKind}, {"/d/h", "/d", api.ErrKind}, {"/d", "/f", api.ErrKind}, {"/d/s/t", "/e/g2", api.ErrKind},
		{"/d", "/e", api.ErrBusy}, {"/e", "/d", api.ErrBusy}, {"/d/s", "/d", api.ErrBusy}, {"/d/s/t", "/d", api.ErrBusy}, {"/d/s/t", "/d/s", api.ErrBusy},
	} {
		wantError(t, tree, rename(x.s, x.to), x.e)
	}
}

func TestRenameFile(t *testing.T) {
	tree := some(t)
	// To where nothing is, in the same directory and in another one.
	wantDo(t, tree, rename("/f", "/a"), api.Answer{}, strings.Replace(someText, "d=2 e=4 f=3", "a=3 d=2 e=4", 1))
	wantDo(t, tree, rename("/f", "/d/s/z"), api.Answer{}, strings.Replace(strings.Replace(someText, " f=3", "", 1), "t=8", "t=8 z=3", 1))
	wantDo(t, tree, rename("/e/g2", "/x"), api.Answer{}, strings.Replace(strings.Replace(someText, "4 dir 1 g2=7", "4 dir 1", 1), "g=7", "g=7 x=7", 1))
	// Onto a file that is gone then.
	wantDo(t, tree, rename("/f", "/d/h"), api.Answer{}, `piece 4; 1 dir 1 d=2 e=4 g=7; 2 dir 1 h=3 s=5; 3 file 1 "\x00ff"; 4 dir 1 g2=7; 5 dir 1 t=8; 7 file 2 "bytes of g"; 8 dir 1`)
	wantDo(t, tree, rename("/g", "/f"), api.Answer{}, `piece 4; 1 dir 1 d=2 e=4 f=7; 2 dir 1 h=6 s=5; 4 dir 1 g2=7; 5 dir 1 t=8; 6 file 1; 7 file 2 "bytes of g"; 8 dir 1`)
	// Onto a file that has another name still.
	wantDo(t, tree, rename("/f", "/g"), api.Answer{}, `piece 4; 1 dir 1 d=2 e=4 g=3; 2 dir 1 h=6 s=5; 3 file 1 "\x00ff"; 4 dir 1 g2=7; 5 dir 1 t=8; 6 file 1; 7 file 1 "bytes of g"; 8 dir 1`)
	// Onto itself, and onto another name of its own.
	for _, s := range []string{"/f", "/d/h", "/g", "/e/g2"} {
		wantLook(t, tree, rename(s, s), api.Answer{})
	}
	wantLook(t, tree, rename("/g", "/e/g2"), api.Answer{})
	wantLook(t, tree, rename("/e/g2", "/g"), api.Answer{})
}

func TestRenameDirectory(t *testing.T) {
	tree := some(t)
	wantDo(t, tree, rename("/d", "/x"), api.Answer{}, strings.Replace(someText, "d=2 e=4 f=3 g=7", "e=4 f=3 g=7 x=2", 1))
	wantDo(t, tree, rename("/d", "/e/x"), api.Answer{}, strings.Replace(strings.Replace(someText, "d=2 ", "", 1), "g2=7", "g2=7 x=2", 1))
	wantDo(t, tree, rename("/d/s", "/s"), api.Answer{}, strings.Replace(strings.Replace(someText, " s=5", "", 1), "g=7", "g=7 s=5", 1))
	// Onto an empty one.
	wantDo(t, tree, rename("/e", "/d/s/t"), api.Answer{}, `piece 4; 1 dir 1 d=2 f=3 g=7; 2 dir 1 h=6 s=5; 3 file 1 "\x00ff"; 4 dir 1 g2=7; 5 dir 1 t=4; 6 file 1; 7 file 2 "bytes of g"`)
	two := after(t, tree, mkdir("/d/u"))
	wantDo(t, two, rename("/d/s", "/d/u"), api.Answer{}, strings.Replace(someText, "s=5", "u=5", 1))
	wantDo(t, two, rename("/d/u", "/d/s/t"), api.Answer{}, `piece 4; 1 dir 1 d=2 e=4 f=3 g=7; 2 dir 1 h=6 s=5; 3 file 1 "\x00ff"; 4 dir 1 g2=7; 5 dir 1 t=9; 6 file 1; 7 file 2 "bytes of g"; 9 dir 1`)
	// Onto itself, empty or not.
	for _, s := range []string{"/d", "/e", "/d/s", "/d/s/t"} {
		wantLook(t, tree, rename(s, s), api.Answer{})
	}
	// A name with which another one begins is not above it.
	tree = after(t, tree, rename("/d", "/da"), mkdir("/dab"))
	wantDo(t, tree, rename("/da", "/dab/x"), api.Answer{}, `piece 4; 1 dir 1 dab=9 e=4 f=3 g=7; 2 dir 1 h=6 s=5; 3 file 1 "\x00ff"; 4 dir 1 g2=7; 5 dir 1 t=8; 6 file 1; 7 file 2 "bytes of g"; 8 dir 1; 9 dir 1 x=2`)
}

// A directory whose tree would get a path of more than MaxDepth names stays.
func TestRenameTooDeep(t *testing.T) {
	for _, leaf := range []func(string) api.Act{mkdir, create} {
		tree := fresh(t, 1, mkdir("/t"), create("/t/0"), mkdir("/t/a"), leaf("/t/a/b"), mkdir("/t/c"),
			mkdir("/1"), mkdir("/1/2"), mkdir("/1/2/3"), mkdir("/1/2/3/4"), mkdir("/1/2/3/4/5"), mkdir("/1/2/3/4/5/6"))
		wantError(t, tree, rename("/t", "/1/2/3/4/x"), api.ErrLimit)
		wantError(t, tree, rename("/t", "/1/2/3/4/5/x"), api.ErrLimit)
		wantError(t, tree, rename("/t", "/1/2/3/4/5/6"), api.ErrLimit)
		wantError(t, tree, rename("/t/a", "/1/2/3/4/5/6"), api.ErrLimit)
		wantError(t, tree, rename("/t/a", "/1/2/3/4/5/x"), api.ErrLimit)
		deep := after(t, tree, rename("/t", "/1/2/3/x"))
		wantLook(t, deep, list("/1/2/3/x/a"), api.Answer{Names: []string{"b"}})
		deep = after(t, tree, rename("/t/a", "/1/2/3/4/x"))
		wantLook(t, deep, list("/1/2/3/4/x"), api.Answer{Names: []string{"b"}})
		after(t, tree, rename("/t/c", "/1/2/3/4/5/6"))
		after(t, tree, rename("/t/0", "/1/2/3/4/5/x"))
		// Full directories, files and what is under it come ahead of the depth.
		wantError(t, tree, rename("/t", "/1/2/3/4/5"), api.ErrBusy)
		full := after(t, tree, rename("/t/0", "/1/2/3/4/5/x"))
		wantError(t, full, rename("/t", "/1/2/3/4/5/x"), api.ErrKind)
		wantError(t, full, rename("/1", "/1/2/3/4/5/6"), api.ErrArg)
		// Within its own directory it gets no deeper.
		after(t, tree, rename("/1/2/3/4", "/1/2/3/z"), rename("/1", "/z"))
	}
}

// P7.1: paths and ways.

func manyNames(n int) string { return strings.Repeat("/a", n) }

var noPaths = []string{
	"", "a", "//", "/a/", "/.", "/..", "/d/..", "/A", "/abcdefghijklm", "/a//b", "d/s", "/f ", "/\x00", "///////", manyNames(7) + "/",
	manyNames(6) + "/A", "/A" + manyNames(6), "/\xff", "a" + manyNames(7),
}

var longPaths = []string{manyNames(7), manyNames(8), manyNames(300), "/f" + manyNames(6), "/no" + manyNames(6), "/d/s/t/abcdefghijkl/a/b/c"}

func TestPathsRefused(t *testing.T) {
	tree := some(t)
	for _, s := range noPaths {
		for _, a := range actsAt(s) {
			wantError(t, tree, a, api.ErrArg)
		}
	}
	for _, s := range longPaths {
		for _, a := range actsAt(s) {
			wantError(t, tree, a, api.ErrLimit)
		}
	}
}

// Path is told ahead of To, both of them ahead of both ways; the way of Path is
// gone ahead of To's.
func TestPathThenTo(t *testing.T) {
	tree := some(t)
	bad, long, none, file := "x", manyNames(7), "/no/x", "/f/x"
	for _, x := range []struct {
		s, to string
		e     api.Errno
	}{
		{bad, long, api.ErrArg}, {bad, none, api.ErrArg}, {bad, file, api.ErrArg}, {bad, "/x", api.ErrArg}, {bad, bad, api.ErrArg},
		{long, bad, api.ErrLimit}, {long, none, api.ErrLimit}, {long, file, api.ErrLimit}, {long, "/x", api.ErrLimit}, {long, long, api.ErrLimit},
		{none, bad, api.ErrArg}, {file, bad, api.ErrArg}, {"/f", bad, api.ErrArg}, {"/no", bad, api.ErrArg}, {"/", bad, api.ErrArg},
		{none, long, api.ErrLimit}, {file, long, api.ErrLimit}, {"/f", long, api.ErrLimit}, {"/no", long, api.ErrLimit}, {"/d", long, api.ErrLimit},
		{none, file, api.ErrNone}, {file, none, api.ErrKind}, {none, "/x", api.ErrNone}, {file, "/x", api.ErrKind},
		{"/no", file, api.ErrKind}, {"/no", none, api.ErrNone}, {"/d", none, api.ErrNone}, {"/f", file, api.ErrKind}, {"/", file, api.ErrKind}, {"/", none, api.ErrNone},
	} {
		wantError(t, tree, link(x.s, x.to), x.e)
		wantError(t, tree, rename(x.s, x.to), x.e)
	}
}

// The first directory of a way that is not one tells the error.
func TestFirstOfAWay(t *testing.T) {
	tree := some(t)
	for s, e := range map[string]api.Errno{
		"/no/f/x": api.ErrNone, "/f/no/x": api.ErrKind, "/d/no/h/x": api.ErrNone, "/d/h/no/x": api.ErrKind, "/e/g2/g2/g2/g2/g2": api.ErrKind, "/d/s/t/no/x": api.ErrNone,
	} {
		for _, a := range actsAt(s) {
			wantError(t, tree, a, e)
		}
	}
}

// What an act has no need of is not looked at.
func TestFieldsWithoutMeaning(t *testing.T) {
	tree := some(t)
	for _, a := range []api.Act{mkdir("/x"), create("/x"), rmdir("/d/s/t"), unlink("/f"), stat("/f"), list("/d"), cut("/f", 2), read("/f", 1, 2), write("/f", 2, "zz")} {
		behind, want := model.Do(tree, a)
		for _, to := range []string{"x", "/", "/no/x", "/f/x", "/f", manyNames(7), a.Path} {
			a.To = to
			wantDo(t, tree, a, want, text(behind))
		}
	}
	for _, a := range []api.Act{mkdir("/x"), create("/x"), rmdir("/d/s/t"), unlink("/f"), stat("/f"), list("/d"), link("/f", "/x"), rename("/f", "/x")} {
		behind, want := model.Do(tree, a)
		for _, n := range []int{-1, 7, math.MinInt, math.MaxInt} {
			a.At, a.N, a.Bytes = n, n, make([]byte, 1000)
			wantDo(t, tree, a, want, text(behind))
		}
	}
	a := cut("/f", 2)
	a.At, a.Bytes = math.MaxInt, make([]byte, 1000)
	wantDo(t, tree, a, api.Answer{}, strings.Replace(someText, `\x00ff`, `\x00f`, 1))
	a = write("/f", 3, "zz")
	a.N = math.MaxInt
	wantDo(t, tree, a, api.Answer{N: 2}, strings.Replace(someText, `\x00ff`, `\x00ffzz`, 1))
	a = read("/f", 1, 2)
	a.Bytes = make([]byte, 1000)
	wantLook(t, tree, a, api.Answer{Bytes: []byte("ff")})
}

// A kind that is none comes ahead of all that is wrong beside it.
func TestKindsThatAreNone(t *testing.T) {
	tree := some(t)
	for _, k := range notActs {
		for _, s := range append([]string{"/", "/f", "/no", "/no/x", "/f/x"}, append(noPaths, longPaths...)...) {
			wantError(t, tree, api.Act{Kind: k, Path: s, To: s, At: -1, N: -1}, api.ErrArg)
			wantError(t, tree, api.Act{Kind: k, Path: s, To: "/x", N: 4, Bytes: []byte("x")}, api.ErrArg)
		}
	}
}

// P7.1: the limits.

func TestMaxDepth(t *testing.T) {
	tree := fresh(t, 1)
	for n := 1; n <= 5; n++ {
		tree = after(t, tree, mkdir(manyNames(n)))
	}
	for _, leaf := range []func(string) api.Act{mkdir, create} {
		tree := after(t, tree, leaf(manyNames(6)), create("/b"), mkdir("/c"))
		wantRight(t, tree, true)
		_, answer := model.Do(tree, stat(manyNames(6)))
		if answer.Ino != 7 {
			t.Errorf("Stat of 6 names = %+v", answer)
		}
		for _, a := range actsAt(manyNames(7)) {
			wantError(t, tree, a, api.ErrLimit)
		}
		after(t, tree, link("/b", manyNames(5)+"/b"), rename("/b", manyNames(5)+"/c"), unlink(manyNames(5)+"/c"))
		after(t, tree, rename("/c", manyNames(5)+"/c"), rmdir(manyNames(5)+"/c"))
	}
}

func TestMaxNodes(t *testing.T) {
	tree := fresh(t, 1, mkdir("/d"))
	for ino := 3; ino <= 48; ino++ {
		a := create(fmt.Sprint("/d/n", ino))
		if ino%5 == 0 {
			a.Kind = api.ActMkdir
		}
		behind, answer := model.Do(tree, a)
		if !sameAnswer(answer, api.Answer{Ino: ino}) || len(behind.Nodes) != ino {
			t.Fatalf("the node %d: %+v", ino, answer)
		}
		tree = behind
	}
	wantRight(t, tree, true)
	for _, s := range []string{"/x", "/d/x", "/d/n40/x"} {
		wantError(t, tree, create(s), api.ErrLimit)
		wantError(t, tree, mkdir(s), api.ErrLimit)
	}
	// What is there already, and the way, come ahead of the limit.
	for s, e := range map[string]api.Errno{"/": api.ErrTwice, "/d": api.ErrTwice, "/d/n3": api.ErrTwice, "/no/x": api.ErrNone, "/d/n3/x": api.ErrKind, "x": api.ErrArg, manyNames(7): api.ErrLimit} {
		wantError(t, tree, create(s), e)
		wantError(t, tree, mkdir(s), e)
	}
	// Names are no nodes, and what is renamed is none more.
	tree = after(t, tree, link("/d/n3", "/l"), rename("/d/n40", "/m"), write("/l", 0, "x"))
	tree = after(t, tree, unlink("/d/n23"))
	behind, answer := model.Do(tree, mkdir("/x"))
	if !sameAnswer(answer, api.Answer{Ino: 23}) {
		t.Errorf("the node that is free again: %+v", answer)
	}
	wantError(t, behind, create("/y"), api.ErrLimit)
}

func TestMaxLinks(t *testing.T) {
	tree := fresh(t, 1, create("/a"), mkdir("/d"), create("/b"))
	for n := 2; n <= 6; n++ {
		tree = after(t, tree, link("/a", fmt.Sprint("/d/", n)))
		wantLook(t, tree, stat("/a"), api.Answer{Ino: 2, Node: api.Node{Kind: api.File, Links: n}})
	}
	wantRight(t, tree, true)
	for _, s := range []string{"/a", "/d/2", "/d/6"} {
		wantError(t, tree, link(s, "/x"), api.ErrLimit)
		wantError(t, tree, link(s, "/d/x"), api.ErrLimit)
		wantError(t, tree, link(s, "/b"), api.ErrTwice)
		wantError(t, tree, link(s, "/"), api.ErrTwice)
		wantError(t, tree, link(s, "/no/x"), api.ErrNone)
	}
	after(t, tree, link("/b", "/x"))
	after(t, tree, rename("/d/3", "/x"), rename("/a", "/y"))
	tree = after(t, tree, unlink("/a"))
	wantLook(t, tree, stat("/d/2"), api.Answer{Ino: 2, Node: api.Node{Kind: api.File, Links: 5}})
	tree = after(t, tree, link("/d/4", "/x"))
	wantError(t, tree, link("/d/4", "/y"), api.ErrLimit)
	// Onto one of its names another file comes: it has one less.
	tree = after(t, tree, rename("/b", "/d/5"), link("/d/4", "/y"))
	wantError(t, tree, link("/d/4", "/z"), api.ErrLimit)
}

// P7.1: bytes.

func TestMostBytes(t *testing.T) {
	for _, piece := range []int{1, 2, 9, 32, 72, 128, 254, 255} {
		most := 8 * piece
		tree := fresh(t, piece, create("/f"))
		full := strings.Repeat("z", most)
		one := wantDo(t, tree, write("/f", 0, full), api.Answer{N: most}, fmt.Sprintf("piece %d; 1 dir 1 f=2; 2 file 1 %q", piece, full))
		wantRight(t, one, true)
		wantBytes(t, after(t, tree, write("/f", most-1, "z")), "/f", strings.Repeat("\x00", most-1)+"z")
		wantBytes(t, after(t, tree, cut("/f", most)), "/f", strings.Repeat("\x00", most))
		wantBytes(t, after(t, one, cut("/f", most)), "/f", full)
		for _, x := range []api.Tree{tree, one} {
			for _, at := range []int{0, 1, most, math.MaxInt} {
				wantError(t, x, write("/f", at, full+"z"), api.ErrLimit)
			}
			for _, at := range []int{most, most + 1, math.MaxInt - 1, math.MaxInt} {
				wantError(t, x, write("/f", at, "z"), api.ErrLimit)
			}
			wantError(t, x, write("/f", 1, full), api.ErrLimit)
			wantError(t, x, write("/f", most-1, "zz"), api.ErrLimit)
			for _, n := range []int{most + 1, most + 2, 2 * most, 1 << 40, math.MaxInt} {
				wantError(t, x, cut("/f", n), api.ErrLimit)
			}
		}
	}
}

// What a whole program may be given at most is more than a file may have.
func TestWriteFarTooManyBytes(t *testing.T) {
	wantError(t, fresh(t, 255, create("/f")), api.Act{Kind: api.ActWrite, Path: "/f", Bytes: make([]byte, 1<<26)}, api.ErrLimit)
}

func TestWrite(t *testing.T) {
	tree := fresh(t, 4, create("/f"), mkdir("/d"), link("/f", "/d/f2"), write("/f", 0, "abcdef"))
	for _, x := range []struct {
		at   int
		b    string
		want string
	}{
		{0, "X", "Xbcdef"}, {1, "XY", "aXYdef"}, {5, "X", "abcdeX"}, {0, "UVWXYZ", "UVWXYZ"}, {0, "TUVWXYZ", "TUVWXYZ"}, {4, "XYZ", "abcdXYZ"},
		{6, "X", "abcdefX"}, {7, "X", "abcdef\x00X"}, {9, "XY", "abcdef\x00\x00\x00XY"}, {31, "X", "abcdef" + strings.Repeat("\x00", 25) + "X"},
		{2, "\x00\x00", "ab\x00\x00ef"}, {6, "\x00\xff", "abcdef\x00\xff"},
	} {
		for _, s := range []string{"/f", "/d/f2"} {
			behind, answer := model.Do(tree, write(s, x.at, x.b))
			if !sameAnswer(answer, api.Answer{N: len(x.b)}) {
				t.Errorf("Write at %d %q = %+v", x.at, x.b, answer)
			}
			wantBytes(t, behind, "/f", x.want)
			wantBytes(t, behind, "/d/f2", x.want)
		}
	}
}

// A write of no bytes does nothing, wherever it stands.
func TestWriteNoBytes(t *testing.T) {
	empty := fresh(t, 4, create("/f"))
	for _, tree := range []api.Tree{empty, after(t, empty, write("/f", 0, "abc")), after(t, empty, cut("/f", 32))} {
		for _, at := range []int{0, 1, 2, 3, 4, 31, 32, 33, 1000, math.MaxInt} {
			wantLook(t, tree, write("/f", at, ""), api.Answer{})
			wantLook(t, tree, api.Act{Kind: api.ActWrite, Path: "/f", At: at, N: 5}, api.Answer{})
		}
		wantError(t, tree, write("/f", -1, ""), api.ErrArg)
		wantError(t, tree, write("/f", math.MinInt, ""), api.ErrArg)
		wantError(t, tree, api.Act{Kind: api.ActWrite, Path: "/f", N: -1}, api.ErrArg)
		wantError(t, tree, write("/no", 0, ""), api.ErrNone)
		wantError(t, tree, write("/", 0, ""), api.ErrKind)
	}
}

func TestCut(t *testing.T) {
	tree := fresh(t, 4, create("/f"), link("/f", "/g"), write("/f", 0, "abcdef"))
	for n := range 33 {
		behind := after(t, tree, cut("/g", n))
		wantBytes(t, behind, "/f", ("abcdef" + strings.Repeat("\x00", 26))[:n])
		// What was cut off does not come back.
		grown := after(t, behind, cut("/f", 32))
		wantBytes(t, grown, "/g", "abcdef"[:min(n, 6)]+strings.Repeat("\x00", 32-min(n, 6)))
		written := after(t, behind, write("/f", 8, "X"))
		_, answer := model.Do(written, read("/f", 0, 9))
		if want := ("abcdef\x00\x00\x00")[:min(n, 6)] + strings.Repeat("\x00", 8-min(n, 6)) + "X"; string(answer.Bytes) != want {
			t.Errorf("Cut to %d, Write at 8: %q; want %q", n, answer.Bytes, want)
		}
	}
	wantDo(t, tree, cut("/f", 0), api.Answer{}, "piece 4; 1 dir 1 f=2 g=2; 2 file 2")
	wantDo(t, tree, cut("/f", 6), api.Answer{}, text(tree))
}

func TestRead(t *testing.T) {
	const b = "abcdef"
	tree := fresh(t, 4, create("/f"), write("/f", 0, b), create("/none"), mkdir("/d"), link("/f", "/d/g"))
	for at := range 10 {
		for n := range 10 {
			want := b[min(at, 6):min(at+n, 6)]
			wantRead(t, tree, "/f", at, n, want)
			wantRead(t, tree, "/d/g", at, n, want)
			wantRead(t, tree, "/none", at, n, "")
		}
	}
	for _, far := range []int{31, 32, 33, 1 << 40, math.MaxInt - 1, math.MaxInt} {
		wantRead(t, tree, "/f", far, far, "")
		wantRead(t, tree, "/f", far, 0, "")
		wantRead(t, tree, "/f", 0, far, b)
		wantRead(t, tree, "/f", 1, far, b[1:])
		wantRead(t, tree, "/f", 6, far, "")
		wantRead(t, tree, "/none", far, far, "")
	}
}

// At and N below 0: each of both, of each of the three acts, behind what is not
// there and what is no file, ahead of the limit.
func TestBelowNought(t *testing.T) {
	tree := some(t)
	for _, k := range []api.ActKind{api.ActWrite, api.ActCut, api.ActRead} {
		for _, x := range []struct{ at, n int }{
			{-1, 0}, {0, -1}, {-1, -1}, {-1, 3}, {3, -1}, {math.MinInt, 0}, {0, math.MinInt}, {math.MinInt, math.MinInt},
			{-1, math.MaxInt}, {math.MaxInt, -1}, {math.MinInt, math.MaxInt}, {-1, 33}, {33, -1},
		} {
			for _, b := range []string{"", "x", strings.Repeat("x", 33), strings.Repeat("x", 1000)} {
				a := api.Act{Kind: k, At: x.at, N: x.n, Bytes: []byte(b)}
				for s, e := range map[string]api.Errno{
					"/f": api.ErrArg, "/d/h": api.ErrArg, "/g": api.ErrArg, "/": api.ErrKind, "/d": api.ErrKind, "/f/x": api.ErrKind,
					"/no": api.ErrNone, "/no/x": api.ErrNone, "x": api.ErrArg, manyNames(7): api.ErrLimit,
				} {
					a.Path = s
					wantError(t, tree, a, e)
				}
			}
		}
	}
}

func TestBytesOfWhatIsNoFile(t *testing.T) {
	tree := some(t)
	for _, far := range []int{0, 1, 33, math.MaxInt} {
		for s, e := range map[string]api.Errno{"/": api.ErrKind, "/d": api.ErrKind, "/d/s/t": api.ErrKind, "/no": api.ErrNone, "/no/x": api.ErrNone, "/f/x": api.ErrKind} {
			wantError(t, tree, write(s, far, "x"), e)
			wantError(t, tree, cut(s, far), e)
			wantError(t, tree, read(s, far, far), e)
		}
	}
}

// P7.2: Changes.

func TestChanges(t *testing.T) {
	may := []api.ActKind{api.ActMkdir, api.ActCreate, api.ActRmdir, api.ActLink, api.ActUnlink, api.ActRename, api.ActWrite, api.ActCut}
	for k := range 256 {
		if got, want := model.Changes(api.ActKind(k)), slices.Contains(may, api.ActKind(k)); got != want {
			t.Errorf("Changes(%d) = %v", k, got)
		}
	}
}

// Acts of each kind that may change a tree change one, those of others none.
func TestChangesIsWhatActsDo(t *testing.T) {
	tree := some(t)
	changed := map[api.ActKind]int{}
	for _, s := range []string{"/", "/f", "/d", "/d/s/t", "/new", "/no/x"} {
		for k := range 256 {
			for _, a := range []api.Act{
				{Path: s, To: "/free"}, {Path: "/f", To: s, N: 2, Bytes: []byte("x")}, {Path: s, N: 2, Bytes: []byte("x")},
			} {
				a.Kind = api.ActKind(k)
				if behind, _ := model.Do(tree, a); text(behind) != someText {
					changed[a.Kind]++
				}
			}
		}
	}
	for k := range 256 {
		if kind := api.ActKind(k); model.Changes(kind) != (changed[kind] > 0) {
			t.Errorf("Changes(%d) = %v; %d acts changed the tree", k, model.Changes(kind), changed[kind])
		}
	}
}

// P7.2: Right, and Do of what is not.

// whole is a tree at all its limits but the number of nodes: a way of 6 names,
// a file of 6 links, one of as many bytes as it may have.
func whole() api.Tree {
	return api.Tree{Piece: 2, Nodes: []api.Inode{
		{Ino: 1, Kind: api.Dir, Links: 1, Names: []api.Name{{Name: "a", Ino: 3}, {Name: "b", Ino: 2}, {Name: "c", Ino: 9}, {Name: "d", Ino: 9}}},
		{Ino: 2, Kind: api.File, Links: 1, Bytes: []byte("0123456789abcdef")},
		{Ino: 3, Kind: api.Dir, Links: 1, Names: []api.Name{{Name: "a", Ino: 4}, {Name: "b", Ino: 9}, {Name: "c", Ino: 9}}},
		{Ino: 4, Kind: api.Dir, Links: 1, Names: []api.Name{{Name: "a", Ino: 5}}},
		{Ino: 5, Kind: api.Dir, Links: 1, Names: []api.Name{{Name: "a", Ino: 10}}},
		{Ino: 6, Kind: api.File, Links: 1, Bytes: []byte("x")},
		{Ino: 7, Kind: api.Dir, Links: 1},
		{Ino: 8, Kind: api.Dir, Links: 1, Names: []api.Name{{Name: "a", Ino: 7}, {Name: "f", Ino: 6}, {Name: "g", Ino: 9}, {Name: "h", Ino: 9}}},
		{Ino: 9, Kind: api.File, Links: 6, Bytes: []byte("nine")},
		{Ino: 10, Kind: api.Dir, Links: 1, Names: []api.Name{{Name: "a", Ino: 8}}},
	}}
}

// tail puts a node behind all others, and an entry of it into the directory that
// stands at that place.
func tail(t *api.Tree, place int, name string, n api.Inode) {
	t.Nodes = append(t.Nodes, n)
	t.Nodes[place].Names = append(t.Nodes[place].Names, api.Name{Name: name, Ino: n.Ino})
}

// fill gives the tree as many nodes.
func fill(t *api.Tree, nodes int) {
	for ino := 20; len(t.Nodes) < nodes; ino++ {
		tail(t, 0, fmt.Sprintf("n%03d", ino), file(ino))
	}
}

// stillRight are changes that leave a tree right.
var stillRight = map[string]func(t *api.Tree){
	"as it is":        func(t *api.Tree) {},
	"48 nodes":        func(t *api.Tree) { fill(t, 48) },
	"47 nodes":        func(t *api.Tree) { fill(t, 47) },
	"a greater piece": func(t *api.Tree) { t.Piece = 255 },
	"no bytes":        func(t *api.Tree) { t.Nodes[1].Bytes = nil },
	"fewer bytes":     func(t *api.Tree) { t.Nodes[1].Bytes = t.Nodes[1].Bytes[:15] },
	"empty lists": func(t *api.Tree) {
		t.Nodes[1].Names, t.Nodes[6].Names, t.Nodes[2].Bytes = []api.Name{}, []api.Name{}, []byte{}
	},
	"other good names": func(t *api.Tree) { t.Nodes[0].Names[0].Name, t.Nodes[0].Names[3].Name = "-", "zzzzzzzzzzzz" },
	"just the root":    func(t *api.Tree) { t.Nodes = t.Nodes[:1]; t.Nodes[0].Names = nil },
	"a way of 6 names to a file of two": func(t *api.Tree) {
		t.Nodes[7].Names[1].Ino, t.Nodes[7].Names[2].Ino = 9, 6
	},
	"a gap": func(t *api.Tree) { t.Nodes[9].Ino = 65535; t.Nodes[4].Names[0].Ino = 65535 },
}

// broken are changes each of which breaks one of the things that the words ask
// of a tree.
var broken = map[string]func(t *api.Tree){
	"piece 0":                   func(t *api.Tree) { t.Piece = 0; t.Nodes[1].Bytes, t.Nodes[5].Bytes, t.Nodes[8].Bytes = nil, nil, nil },
	"piece below 0":             func(t *api.Tree) { t.Piece = -1 },
	"least piece":               func(t *api.Tree) { t.Piece = math.MinInt },
	"piece 256":                 func(t *api.Tree) { t.Piece = 256 },
	"greatest piece":            func(t *api.Tree) { t.Piece = math.MaxInt },
	"a piece whose eight wraps": func(t *api.Tree) { t.Piece = 1<<61 + 2 },
	"no nodes":                  func(t *api.Tree) { t.Nodes = nil },
	"nodes without elements":    func(t *api.Tree) { t.Nodes = []api.Inode{} },
	"nothing":                   func(t *api.Tree) { *t = api.Tree{} },

	"two nodes changed":     func(t *api.Tree) { t.Nodes[2], t.Nodes[3] = t.Nodes[3], t.Nodes[2] },
	"the last ones changed": func(t *api.Tree) { t.Nodes[7], t.Nodes[8] = t.Nodes[8], t.Nodes[7] },
	"the first one last":    func(t *api.Tree) { t.Nodes = append(t.Nodes[1:], t.Nodes[0]) },
	"turned round":          func(t *api.Tree) { slices.Reverse(t.Nodes) },
	"a node twice":          func(t *api.Tree) { t.Nodes = slices.Insert(t.Nodes, 5, t.Nodes[5]) },
	"the root twice":        func(t *api.Tree) { t.Nodes = slices.Insert(t.Nodes, 0, t.Nodes[0]) },
	"two nodes of one Ino":  func(t *api.Tree) { t.Nodes[6].Ino = 6 },

	"no root":               func(t *api.Tree) { t.Nodes = t.Nodes[1:] },
	"no root but files":     func(t *api.Tree) { t.Nodes = t.Nodes[1:2] },
	"no root but a ring":    func(t *api.Tree) { t.Nodes = []api.Inode{dir(20, 20)} },
	"no root but two in it": func(t *api.Tree) { t.Nodes = []api.Inode{dir(2, 3), dir(3, 2)} },
	"a root of the Ino 2":   func(t *api.Tree) { t.Nodes = t.Nodes[:1]; t.Nodes[0].Ino, t.Nodes[0].Names = 2, nil },
	"a root of the Ino 0":   func(t *api.Tree) { t.Nodes[0].Ino = 0 },
	"a root below 0":        func(t *api.Tree) { t.Nodes[0].Ino = -1 },
	"a root that is a file": func(t *api.Tree) { t.Nodes = t.Nodes[:1]; t.Nodes[0].Kind, t.Nodes[0].Names = api.File, nil },
	"a root of no kind":     func(t *api.Tree) { t.Nodes[0].Kind = 0 },
	"a root of no links":    func(t *api.Tree) { t.Nodes[0].Links = 0 },
	"a root of two links":   func(t *api.Tree) { t.Nodes[0].Links = 2 },
	"an entry of the root":  func(t *api.Tree) { t.Nodes[6].Names = []api.Name{{Name: "a", Ino: 1}} },
	"the root in itself":    func(t *api.Tree) { t.Nodes[0].Names = append(t.Nodes[0].Names, api.Name{Name: "e", Ino: 1}) },
	"the root, two links":   func(t *api.Tree) { t.Nodes[0].Links = 2; t.Nodes[2].Names[1].Ino, t.Nodes[8].Links = 1, 5 },
	"a node of the Ino 0": func(t *api.Tree) {
		t.Nodes = slices.Insert(t.Nodes, 0, file(0))
		t.Nodes[1].Names[1].Ino = 0
		t.Nodes = slices.Delete(t.Nodes, 2, 3)
	},
	"a node below 0": func(t *api.Tree) {
		t.Nodes = slices.Insert(t.Nodes, 0, file(-2))
		t.Nodes[1].Names[1].Ino = -2
		t.Nodes = slices.Delete(t.Nodes, 2, 3)
	},
	"a directory of the Ino 0": func(t *api.Tree) {
		t.Nodes = slices.Insert(t.Nodes, 0, dir(0))
		t.Nodes[1].Names = append(t.Nodes[1].Names, api.Name{Name: "e"})
	},
	"a directory below 0": func(t *api.Tree) {
		t.Nodes = slices.Insert(t.Nodes, 0, dir(-7))
		t.Nodes[1].Names = append(t.Nodes[1].Names, api.Name{Name: "e", Ino: -7})
	},
	"a node of Ino 0 behind": func(t *api.Tree) { tail(t, 0, "z", file(0)) },

	"a kind 0":   func(t *api.Tree) { t.Nodes[5].Kind = 0 },
	"a kind 3":   func(t *api.Tree) { t.Nodes[5].Kind = 3 },
	"a kind 255": func(t *api.Tree) { t.Nodes[6].Kind = 255 },

	"entries changed":      func(t *api.Tree) { l := t.Nodes[7].Names; l[0], l[1] = l[1], l[0] },
	"the last two changed": func(t *api.Tree) { l := t.Nodes[0].Names; l[2], l[3] = l[3], l[2] },
	"one name twice":       func(t *api.Tree) { t.Nodes[0].Names[1].Name = "a" },
	"one entry twice":      func(t *api.Tree) { t.Nodes[0].Names[3].Name = "c" },
	"one of two twice": func(t *api.Tree) {
		t.Nodes[2].Names = append(t.Nodes[2].Names, api.Name{Name: "c", Ino: 9})
		t.Nodes[7].Names = t.Nodes[7].Names[:3]
	},

	"an Ino that no node has":  func(t *api.Tree) { t.Nodes[6].Names = []api.Name{{Name: "a", Ino: 11}} },
	"an Ino of 0":              func(t *api.Tree) { t.Nodes[6].Names = []api.Name{{Name: "a"}} },
	"an Ino below 0":           func(t *api.Tree) { t.Nodes[6].Names = []api.Name{{Name: "a", Ino: -1}} },
	"an Ino that is far":       func(t *api.Tree) { t.Nodes[6].Names = []api.Name{{Name: "a", Ino: math.MaxInt}} },
	"a node taken out":         func(t *api.Tree) { t.Nodes = slices.Delete(t.Nodes, 5, 6) },
	"a node of another Ino":    func(t *api.Tree) { t.Nodes[9].Ino = 11 },
	"one of six names of none": func(t *api.Tree) { t.Nodes[0].Names[2].Ino = 11 },
	"a file without entries":   func(t *api.Tree) { t.Nodes[7].Names = slices.Delete(t.Nodes[7].Names, 1, 2) },
	"a file of no links":       func(t *api.Tree) { t.Nodes = append(t.Nodes, api.Inode{Ino: 20, Kind: api.File}) },
	"a file of links below 0":  func(t *api.Tree) { t.Nodes[5].Links = -1 },
	"a link too few":           func(t *api.Tree) { t.Nodes[8].Links = 5 },
	"a link too many":          func(t *api.Tree) { t.Nodes[5].Links = 2 },
	"a name less":              func(t *api.Tree) { t.Nodes[0].Names = t.Nodes[0].Names[:3] },
	"7 links, 6 names":         func(t *api.Tree) { t.Nodes[8].Links = 7 },
	"7 links, 7 names": func(t *api.Tree) {
		t.Nodes[8].Links = 7
		t.Nodes[0].Names = append(t.Nodes[0].Names, api.Name{Name: "e", Ino: 9})
	},
	"a directory of no links":  func(t *api.Tree) { t.Nodes[6].Links = 0 },
	"a directory of two links": func(t *api.Tree) { t.Nodes[6].Links = 2 },
	"two entries and links": func(t *api.Tree) {
		t.Nodes[6].Links = 2
		t.Nodes[0].Names = append(t.Nodes[0].Names, api.Name{Name: "e", Ino: 7})
	},
	"a directory with two entries":  func(t *api.Tree) { t.Nodes[0].Names = append(t.Nodes[0].Names, api.Name{Name: "e", Ino: 7}) },
	"two entries in one":            func(t *api.Tree) { t.Nodes[7].Names = append(t.Nodes[7].Names, api.Name{Name: "i", Ino: 7}) },
	"a directory without an entry":  func(t *api.Tree) { t.Nodes = append(t.Nodes, api.Inode{Ino: 20, Kind: api.Dir, Links: 1}) },
	"a directory with bytes":        func(t *api.Tree) { t.Nodes[6].Bytes = []byte{0} },
	"a root with bytes":             func(t *api.Tree) { t.Nodes[0].Bytes = []byte("x") },
	"a file with an entry":          func(t *api.Tree) { tail(t, 1, "a", file(20)) },
	"a file with a directory":       func(t *api.Tree) { tail(t, 1, "a", dir(20)) },
	"a file with one of six":        func(t *api.Tree) { l := t.Nodes[0].Names; t.Nodes[0].Names, t.Nodes[1].Names = l[:3], l[3:] },
	"a file with an entry of no no": func(t *api.Tree) { t.Nodes[5].Names = []api.Name{{}} },

	"a directory in itself": func(t *api.Tree) { t.Nodes = append(t.Nodes, dir(20, 20)) },
	"two in each other":     func(t *api.Tree) { t.Nodes = append(t.Nodes, dir(20, 21), dir(21, 20)) },
	"three in a ring":       func(t *api.Tree) { t.Nodes = append(t.Nodes, dir(20, 22), dir(21, 20), dir(22, 21)) },
	"a file in a ring":      func(t *api.Tree) { t.Nodes = append(t.Nodes, dir(20, 21), dir(21, 20, 22), file(22)) },
	"a file half in a ring": func(t *api.Tree) { t.Nodes = append(t.Nodes, dir(20, 20, 6)); t.Nodes[5].Links = 2 },
	"cut off into a ring":   func(t *api.Tree) { t.Nodes[4].Names = nil; t.Nodes[6].Names = []api.Name{{Name: "a", Ino: 10}} },
	"a way back up":         func(t *api.Tree) { t.Nodes[6].Names = []api.Name{{Name: "a", Ino: 3}} },

	"17 bytes":                 func(t *api.Tree) { t.Nodes[1].Bytes = make([]byte, 17) },
	"17 bytes of the last one": func(t *api.Tree) { t.Nodes[8].Bytes = make([]byte, 17) },
	"a smaller piece":          func(t *api.Tree) { t.Piece = 1 },
	"49 nodes":                 func(t *api.Tree) { fill(t, 49) },
	"300 nodes":                func(t *api.Tree) { fill(t, 300) },
	"a directory of 7 names":   func(t *api.Tree) { tail(t, 6, "a", dir(20)) },
	"a file of 7 names":        func(t *api.Tree) { tail(t, 6, "a", file(20)) },
	"a link of 7 names":        func(t *api.Tree) { t.Nodes[6].Names = []api.Name{{Name: "a", Ino: 6}}; t.Nodes[5].Links = 2 },
	"8 names":                  func(t *api.Tree) { tail(t, 6, "a", dir(20)); tail(t, 10, "a", file(21)) },
}

func init() {
	for _, name := range []string{"", ".", "..", "A", "a/b", "/", "a b", "abcdefghijklm", "\x00", "\xff", "\u00e4", "_"} {
		broken[fmt.Sprintf("the name %q", name)] = func(t *api.Tree) { t.Nodes[3].Names[0].Name = name }
		broken[fmt.Sprintf("the name %q of a file", name)] = func(t *api.Tree) {
			t.Nodes[7].Names = []api.Name{{Name: name, Ino: 6}}
			t.Nodes[8].Links = 4
			t.Nodes[0].Names = append(t.Nodes[0].Names, api.Name{Name: "e", Ino: 7})
		}
	}
}

func file(ino int) api.Inode {
	return api.Inode{Ino: ino, Kind: api.File, Links: 1}
}

func dir(ino int, in ...int) api.Inode {
	n := api.Inode{Ino: ino, Kind: api.Dir, Links: 1}
	for i, x := range in {
		n.Names = append(n.Names, api.Name{Name: fmt.Sprint("n", i), Ino: x})
	}
	return n
}

func TestRight(t *testing.T) {
	for what, change := range stillRight {
		tree := whole()
		change(&tree)
		if !model.Right(tree) || !plainRight(tree) {
			t.Errorf("%s: Right(%s) = false", what, text(tree))
		}
	}
	for what, change := range broken {
		tree := whole()
		change(&tree)
		if model.Right(tree) || plainRight(tree) {
			t.Errorf("%s: Right(%s) = true", what, text(tree))
		}
	}
}

// Of a tree that is not right each act, of whatever kind, answers ErrForm, also
// where it has errors of its own.
func TestDoOfWhatIsNotRight(t *testing.T) {
	for what, change := range broken {
		tree := whole()
		change(&tree)
		was := text(tree)
		var acts []api.Act
		for _, s := range []string{"/", "/a", "/b", "/x", "/a/a/a/a/a/f", "/b/x", "/no/x", "x", manyNames(7)} {
			acts = append(acts, actsAt(s)...)
			for _, k := range notActs {
				acts = append(acts, api.Act{Kind: k, Path: s, To: s, At: -1})
			}
		}
		for _, a := range acts {
			got, answer := model.Do(tree, a)
			if !sameAnswer(answer, api.Answer{E: api.ErrForm}) || text(got) != was || text(tree) != was {
				t.Errorf("%s: Do(%s, %+v) = %s, %+v; want ErrForm", what, was, a, text(got), answer)
			}
		}
	}
}

// Lists of any length are gone through without a wait.
func TestGreatTreesThatAreNotRight(t *testing.T) {
	tree := whole()
	for i := range 1 << 18 {
		tree.Nodes[0].Names = append(tree.Nodes[0].Names, api.Name{Name: fmt.Sprintf("z%06d", i), Ino: 9})
	}
	wantRight(t, tree, false)
	tree = whole()
	fill(&tree, 1<<16)
	wantRight(t, tree, false)
	tree = api.Tree{Piece: 1, Nodes: []api.Inode{dir(1, 2)}}
	for ino := 2; ino <= 48; ino++ {
		tree.Nodes = append(tree.Nodes, dir(ino, ino+1))
	}
	tree.Nodes[47].Names = nil
	wantRight(t, tree, false)
	wantError(t, tree, stat("/"), api.ErrForm)
}

// P7.2: Same.

func wantSame(t *testing.T, a, b api.Tree, ok bool) {
	t.Helper()
	if model.Same(a, b) != ok || model.Same(b, a) != ok {
		t.Errorf("Same(%s, %s) = %v, and turned round %v; want %v", text(a), text(b), model.Same(a, b), model.Same(b, a), ok)
	}
}

func TestSame(t *testing.T) {
	all := []api.Tree{{}, fresh(t, 1), fresh(t, 2), some(t)}
	for _, changes := range []map[string]func(*api.Tree){stillRight, broken} {
		for _, change := range changes {
			tree := whole()
			change(&tree)
			all = append(all, tree)
		}
	}
	for _, a := range all {
		for _, b := range all {
			wantSame(t, a, b, text(a) == text(b))
		}
	}
}

// One field that differs makes another tree of it.
func TestSameEachField(t *testing.T) {
	for what, change := range map[string]func(t *api.Tree){
		"Piece":           func(t *api.Tree) { t.Piece++ },
		"a node less":     func(t *api.Tree) { t.Nodes = t.Nodes[:8] },
		"a node more":     func(t *api.Tree) { t.Nodes = append(t.Nodes, api.Inode{}) },
		"no nodes":        func(t *api.Tree) { t.Nodes = nil },
		"Ino":             func(t *api.Tree) { t.Nodes[8].Ino++ },
		"Kind":            func(t *api.Tree) { t.Nodes[6].Kind = api.File },
		"Links":           func(t *api.Tree) { t.Nodes[8].Links-- },
		"an entry less":   func(t *api.Tree) { t.Nodes[7].Names = t.Nodes[7].Names[:3] },
		"no entries":      func(t *api.Tree) { t.Nodes[7].Names = nil },
		"an entry more":   func(t *api.Tree) { t.Nodes[6].Names = []api.Name{{}} },
		"an entry's name": func(t *api.Tree) { t.Nodes[7].Names[3].Name = "i" },
		"an entry's Ino":  func(t *api.Tree) { t.Nodes[7].Names[3].Ino = 6 },
		"a byte":          func(t *api.Tree) { t.Nodes[1].Bytes[15]++ },
		"a byte less":     func(t *api.Tree) { t.Nodes[1].Bytes = t.Nodes[1].Bytes[:15] },
		"a nought more":   func(t *api.Tree) { t.Nodes[5].Bytes = append(t.Nodes[5].Bytes, 0) },
		"no bytes":        func(t *api.Tree) { t.Nodes[8].Bytes = nil },
		"bytes of a dir":  func(t *api.Tree) { t.Nodes[6].Bytes = []byte{0} },
		"the order":       func(t *api.Tree) { t.Nodes[7], t.Nodes[8] = t.Nodes[8], t.Nodes[7] },
		"entries' order":  func(t *api.Tree) { l := t.Nodes[7].Names; l[2], l[3] = l[3], l[2] },
	} {
		a, b := whole(), whole()
		change(&b)
		if model.Same(a, b) || model.Same(b, a) {
			t.Errorf("%s differs, and Same = true", what)
		}
		wantSame(t, b, b, true)
	}
	wantSame(t, whole(), whole(), true)
}

func TestSameNilAndEmpty(t *testing.T) {
	wantSame(t, api.Tree{Piece: 3}, api.Tree{Piece: 3, Nodes: []api.Inode{}}, true)
	a, b := whole(), whole()
	a.Nodes[6].Names, b.Nodes[6].Names = nil, []api.Name{}
	a.Nodes[6].Bytes, b.Nodes[6].Bytes = []byte{}, nil
	a.Nodes[1].Names, b.Nodes[1].Names = make([]api.Name, 0, 3), nil
	wantSame(t, a, b, true)
	wantRight(t, a, true)
	wantRight(t, b, true)
	one, answer := model.Do(a, create("/e"))
	other, answerToo := model.Do(b, create("/e"))
	wantSame(t, one, other, true)
	if !sameAnswer(answer, answerToo) {
		t.Errorf("Do of lists that are nil, and of empty ones: %+v, %+v", answer, answerToo)
	}
	// No bytes to write are none, nil or empty.
	for _, b := range [][]byte{nil, {}, make([]byte, 0, 9)} {
		wantLook(t, whole(), api.Act{Kind: api.ActWrite, Path: "/b", At: 99, Bytes: b}, api.Answer{})
	}
}

// A room of another size behind its lists makes no other tree of it.
func TestRoomDoesNotCount(t *testing.T) {
	a, b := whole(), roomy()
	wantSame(t, a, b, true)
	for _, s := range []string{"/", "/a", "/b", "/c", "/x"} {
		for _, act := range actsAt(s) {
			one, answer := model.Do(a, act)
			other, answerToo := model.Do(b, act)
			if text(one) != text(other) || !sameAnswer(answer, answerToo) {
				t.Errorf("Do(%+v) hangs on the room behind a list", act)
			}
		}
	}
}

// The rules.

// roomy is whole with room behind each list of it, in which something stands.
func roomy() api.Tree {
	t := whole()
	for i := range t.Nodes {
		n := &t.Nodes[i]
		names := append(slices.Clone(n.Names), api.Name{Name: "room", Ino: 77}, api.Name{Name: "behind", Ino: 78}, api.Name{Name: "it", Ino: 79})
		n.Names = names[:len(n.Names)]
		b := append(bytes.Clone(n.Bytes), "room behind all of its bytes"...)
		n.Bytes = b[:len(n.Bytes)]
	}
	all := append(slices.Clone(t.Nodes), api.Inode{Ino: 80, Kind: 7}, api.Inode{Ino: 81, Kind: 8}, api.Inode{Ino: 82, Kind: 9})
	t.Nodes = all[:len(t.Nodes)]
	return t
}

// wholeRoom tells all that a tree reaches, the room behind its lists, too.
func wholeRoom(t api.Tree) string {
	all := api.Tree{Piece: t.Piece, Nodes: slices.Clone(t.Nodes[:cap(t.Nodes)])}
	s := fmt.Sprint(len(t.Nodes), ": ")
	for i := range all.Nodes {
		n := &all.Nodes[i]
		s += fmt.Sprint(len(n.Names), n.Names == nil, len(n.Bytes), n.Bytes == nil, "; ")
		n.Names, n.Bytes = n.Names[:cap(n.Names)], n.Bytes[:cap(n.Bytes)]
	}
	return s + text(all)
}

// spoil writes over all that the tree reaches.
func spoil(t api.Tree) {
	all := t.Nodes[:cap(t.Nodes)]
	for i := range all {
		names, b := all[i].Names[:cap(all[i].Names)], all[i].Bytes[:cap(all[i].Bytes)]
		for j := range names {
			names[j] = api.Name{Name: "SPOILT", Ino: -9}
		}
		for j := range b {
			b[j] = 'X'
		}
		all[i] = api.Inode{Ino: -9, Kind: 9, Links: -9}
	}
}

func spoilAnswer(a api.Answer) {
	b, names := a.Bytes[:cap(a.Bytes)], a.Names[:cap(a.Names)]
	for i := range b {
		b[i] = 'X'
	}
	for i := range names {
		names[i] = "SPOILT"
	}
}

// actsOnWhole are acts of each kind that change the tree whole in each way, or
// refuse, or look.
func actsOnWhole() []api.Act {
	acts := []api.Act{
		mkdir("/0"), create("/z"), mkdir("/a/d"), rmdir("/a/a/a/a/a/a"), link("/b", "/z"), link("/c", "/z"), link("/b", "/a/d"), unlink("/b"), unlink("/c"), unlink("/a/a/a/a/a/g"),
		rename("/b", "/0"), rename("/b", "/c"), rename("/c", "/b"), rename("/c", "/d"), rename("/a/a/a/a/a/a", "/0"), rename("/a/a/a/a/a", "/0"), rename("/a/a/a/a/a/f", "/a/b"), rename("/b", "/b"), rename("/a", "/a"),
		write("/b", 0, "new"), write("/c", 3, "new"), write("/c", 4, "new"), write("/c", 9, "new"), write("/b", 0, ""), write("/c", 0, "nine"), cut("/b", 0), cut("/b", 3), cut("/b", 16), cut("/c", 5), cut("/c", 16),
		read("/b", 0, 16), read("/b", 3, 4), read("/b", 16, 4), read("/c", 0, 99), read("/a/a/a/a/a/f", 0, 0), stat("/"), stat("/c"), list("/"), list("/a"), list("/a/a/a/a/a/a"),
		{Kind: api.NoAct, Path: "/"}, {Kind: api.ActSync, Path: "/"},
	}
	for _, s := range []string{"x", manyNames(7), "/no/x", "/b/x", "/", "/a", "/b", "/no"} {
		acts = append(acts, actsAt(s)...)
	}
	return acts
}

func TestHandedInStays(t *testing.T) {
	for _, a := range actsOnWhole() {
		tree := roomy()
		was := wholeRoom(tree)
		b := append(bytes.Clone(a.Bytes), "room"...)
		a.Bytes = b[:len(a.Bytes)]
		wasBytes := string(b)
		model.Do(tree, a)
		model.Right(tree)
		model.Same(tree, tree)
		model.Same(tree, whole())
		if wholeRoom(tree) != was || string(b) != wasBytes {
			t.Errorf("Do(%+v) changes what is handed in: %s", a, wholeRoom(tree))
		}
	}
	for what, change := range broken {
		tree := roomy()
		change(&tree)
		was := wholeRoom(tree)
		model.Do(tree, write("/b", 0, "x"))
		model.Right(tree)
		if wholeRoom(tree) != was {
			t.Errorf("%s: what is handed in has changed", what)
		}
	}
}

// wantOwn: the answers of Do share memory neither with what was handed in nor
// with one another.
func wantOwn(t *testing.T, make func() api.Tree, a api.Act) {
	t.Helper()
	tree := make()
	was, wasBytes := wholeRoom(tree), string(a.Bytes[:cap(a.Bytes)])
	first, answer := model.Do(tree, a)
	second, answerToo := model.Do(tree, a)
	want, wantAnswer := text(first), fmt.Sprintf("%+v", answer)
	spoilAnswer(answer)
	if text(first) != want {
		t.Errorf("Do(%+v): the answer shares memory with the tree behind", a)
	}
	spoil(first)
	if wholeRoom(tree) != was || string(a.Bytes[:cap(a.Bytes)]) != wasBytes {
		t.Errorf("Do(%+v): what is answered shares memory with what was handed in", a)
	}
	if text(second) != want || fmt.Sprintf("%+v", answerToo) != wantAnswer {
		t.Errorf("Do(%+v): two answers share memory", a)
	}
	spoil(tree)
	all := a.Bytes[:cap(a.Bytes)]
	for i := range all {
		all[i] = 'Y'
	}
	if text(second) != want || fmt.Sprintf("%+v", answerToo) != wantAnswer {
		t.Errorf("Do(%+v): what was handed in is kept", a)
	}
}

func TestAnswersAreNewMemory(t *testing.T) {
	for _, a := range actsOnWhole() {
		wantOwn(t, roomy, a)
		a.Bytes = bytes.Clone([]byte("other bytes"))[:3]
		wantOwn(t, whole, a)
	}
	for _, change := range broken {
		wantOwn(t, func() api.Tree {
			tree := roomy()
			change(&tree)
			return tree
		}, write("/b", 0, "x"))
	}
	one, other := fresh(t, 3), fresh(t, 3)
	want := text(one)
	spoil(one)
	if text(other) != want || text(fresh(t, 3)) != want {
		t.Error("New: two answers share memory")
	}
}

// Lists of a tree that share memory where they are handed in share none behind.
func TestListsOfOneTreeAreTheirOwn(t *testing.T) {
	b := []byte("0123456789abcdef")
	tree := whole()
	tree.Nodes[1].Bytes, tree.Nodes[5].Bytes, tree.Nodes[8].Bytes = b, b[:3], b[1:4]
	names := []api.Name{{Name: "a", Ino: 5}, {Name: "behind", Ino: 99}}
	tree.Nodes[3].Names = names[:1]
	tree.Nodes[6].Names = names[1:1]
	for _, a := range append(actsOnWhole(), api.Act{Kind: api.ActWrite, Path: "/b", At: 4, Bytes: b[:2]}, api.Act{Kind: api.ActWrite, Path: "/c", Bytes: b}) {
		want, _ := model.Do(tree, a)
		for i := range want.Nodes {
			got, _ := model.Do(tree, a)
			spoil(api.Tree{Nodes: got.Nodes[i : i+1 : i+1]})
			got.Nodes[i] = want.Nodes[i]
			if text(got) != text(want) {
				t.Errorf("Do(%+v): lists of the node %d share memory with another's", a, want.Nodes[i].Ino)
			}
		}
	}
	if string(b) != "0123456789abcdef" || names[1].Name != "behind" {
		t.Error("what was handed in has changed")
	}
}

// The bytes that are written may be the file's own.
func TestWriteItsOwnBytes(t *testing.T) {
	tree := whole()
	own := tree.Nodes[1].Bytes
	behind, _ := model.Do(tree, api.Act{Kind: api.ActWrite, Path: "/b", At: 2, Bytes: own[:9]})
	wantBytes(t, behind, "/b", "01012345678bcdef")
	wantBytes(t, tree, "/b", "0123456789abcdef")
}
