package woven_test

import (
	"bytes"
	"fmt"
	"maps"
	"slices"
	"testing"

	"carrack/api"
	"carrack/model"
	"carrack/woven"
)

// roomyTree is the tree with room behind each list of it, in which something
// stands.
func roomyTree(t api.Tree) api.Tree {
	for i := range t.Nodes {
		n := &t.Nodes[i]
		names := append(slices.Clone(n.Names), name("room", 77), name("behind", 78))
		n.Names = names[:len(n.Names)]
		b := append(bytes.Clone(n.Bytes), "room behind all of its bytes"...)
		n.Bytes = b[:len(n.Bytes)]
	}
	all := append(slices.Clone(t.Nodes), api.Inode{Ino: 80, Kind: 7}, api.Inode{Ino: 81, Kind: 8})
	t.Nodes = all[:len(t.Nodes)]
	return t
}

// wholeTree tells all that a tree reaches, the room behind its lists, too.
func wholeTree(t api.Tree) string {
	all := api.Tree{Piece: t.Piece, Nodes: slices.Clone(t.Nodes[:cap(t.Nodes)])}
	s := fmt.Sprint(len(t.Nodes), ": ")
	for i := range all.Nodes {
		n := &all.Nodes[i]
		s += fmt.Sprint(len(n.Names), n.Names == nil, len(n.Bytes), n.Bytes == nil, "; ")
		n.Names, n.Bytes = n.Names[:cap(n.Names)], n.Bytes[:cap(n.Bytes)]
	}
	return s + text(all)
}

// roomyFacts are the facts with room behind the list and behind each value, in
// which something stands.
func roomyFacts(l []api.Fact) []api.Fact {
	all := append(slices.Clone(l), dirOf(77), entryOf(77, "room", 78))
	for i := range all {
		b := append(bytes.Clone(all[i].Value), "room"...)
		all[i].Value = b[:len(all[i].Value)]
	}
	return all[:len(l)]
}

// wholeFactsText tells all that facts reach, the room behind the lists, too.
func wholeFactsText(l []api.Fact) string {
	all := slices.Clone(l[:cap(l)])
	s := fmt.Sprint(len(l), ": ")
	for i, f := range all {
		s += fmt.Sprint(len(f.Value), f.Value == nil, "; ")
		all[i].Value = f.Value[:cap(f.Value)]
	}
	return s + factsText(all)
}

// spoilTree writes over all that the tree reaches.
func spoilTree(t api.Tree) {
	all := t.Nodes[:cap(t.Nodes)]
	for i := range all {
		names, b := all[i].Names[:cap(all[i].Names)], all[i].Bytes[:cap(all[i].Bytes)]
		for j := range names {
			names[j] = name("SPOILT", -9)
		}
		for j := range b {
			b[j] = 'X'
		}
		all[i] = api.Inode{Ino: -9, Kind: 9, Links: -9}
	}
}

// spoilFacts writes over all that the facts reach.
func spoilFacts(l []api.Fact) {
	all := l[:cap(l)]
	for i := range all {
		b := all[i].Value[:cap(all[i].Value)]
		for j := range b {
			b[j] = 'X'
		}
		all[i] = api.Fact{Key: api.Key{Ino: -9}}
	}
}

// What is handed in stays as it is, the room behind it too.
func TestHandedInStays(t *testing.T) {
	changes := maps.Clone(broken)
	changes["as it is"] = func(*api.Tree) {}
	for what, change := range changes {
		tree := whole()
		change(&tree)
		tree = roomyTree(tree)
		was := wholeTree(tree)
		woven.Facts(tree)
		woven.Count(tree)
		if wholeTree(tree) != was {
			t.Errorf("%s: what is handed in has changed: %s", what, wholeTree(tree))
		}
	}
	lists := noTrees()
	lists["whole"] = wholeFacts()
	lists["in no order"] = append(wholeFacts()[20:], wholeFacts()[:20]...)
	for what, l := range lists {
		l = roomyFacts(l)
		was := wholeFactsText(l)
		for _, piece := range []int{-1, 0, 1, 2, 255, 256} {
			woven.Tree(l, piece)
		}
		if wholeFactsText(l) != was {
			t.Errorf("%s: what is handed in has changed: %s", what, wholeFactsText(l))
		}
	}
}

// What is answered shares memory with nothing else: not with what was handed in,
// not with another answer.
func TestFactsAreNewMemory(t *testing.T) {
	tree := roomyTree(whole())
	was, want := wholeTree(tree), factsText(wholeFacts())
	first, _ := woven.Facts(tree)
	second, _ := woven.Facts(tree)
	spoilFacts(first)
	if wholeTree(tree) != was {
		t.Error("the facts share memory with the tree")
	}
	if factsText(second) != want {
		t.Error("two answers share memory")
	}
	spoilTree(tree)
	if factsText(second) != want {
		t.Error("the tree is kept in its facts")
	}
	for i := range wholeFacts() {
		l, _ := woven.Facts(whole())
		b := l[i].Value[:cap(l[i].Value)]
		for j := range b {
			b[j] = 'X'
		}
		l[i] = wholeFacts()[i]
		if factsText(l) != want {
			t.Errorf("the value %d shares memory with another one", i)
		}
	}
}

func TestTreesAreNewMemory(t *testing.T) {
	l := roomyFacts(wholeFacts())
	was, want := wholeFactsText(l), text(whole())
	first, _ := woven.Tree(l, 2)
	second, _ := woven.Tree(l, 2)
	spoilTree(first)
	if wholeFactsText(l) != was {
		t.Error("the tree shares memory with the facts")
	}
	if text(second) != want {
		t.Error("two answers share memory")
	}
	spoilFacts(l)
	if text(second) != want {
		t.Error("the facts are kept in the tree")
	}
	for i, n := range whole().Nodes {
		tree, _ := woven.Tree(wholeFacts(), 2)
		spoilTree(api.Tree{Nodes: tree.Nodes[i : i+1 : i+1]})
		tree.Nodes[i] = n
		if text(tree) != want {
			t.Errorf("lists of the node %d share memory with another's", n.Ino)
		}
	}
}

// Lists that share memory where they are handed in share none in the answer.
func TestSharedLists(t *testing.T) {
	b := []byte("abcd")
	tree := api.Tree{Piece: 2, Nodes: []api.Inode{
		dir(1, name("a", 2), name("b", 3)),
		{Ino: 2, Kind: api.File, Links: 1, Bytes: b}, {Ino: 3, Kind: api.File, Links: 1, Bytes: b[:2]},
	}}
	l, _ := woven.Facts(tree)
	clear(l[4].Value)
	if want := "ab"; string(l[7].Value) != want || string(b) != "abcd" {
		t.Errorf("values share memory: %s", factsText(l))
	}
	v := []byte("ab")
	shared := []api.Fact{
		dirOf(1), entryOf(1, "a", 2), entryOf(1, "b", 3),
		fileOf(2, 1, 2), {Key: pieceKey(2, 0), Value: v}, fileOf(3, 1, 2), {Key: pieceKey(3, 0), Value: v},
	}
	got, _ := woven.Tree(shared, 2)
	clear(got.Nodes[1].Bytes)
	if string(got.Nodes[2].Bytes) != "ab" || string(v) != "ab" {
		t.Errorf("bytes share memory: %s", text(got))
	}
}

// Lists that are nil and lists without elements are the same.
func TestNilAndEmpty(t *testing.T) {
	for _, nodes := range [][]api.Inode{nil, {}} {
		wantNoFacts(t, "no nodes", api.Tree{Piece: 2, Nodes: nodes})
	}
	for _, names := range [][]api.Name{nil, {}} {
		for _, b := range [][]byte{nil, {}} {
			tree := api.Tree{Piece: 2, Nodes: []api.Inode{
				dir(1, name("a", 2), name("b", 3)),
				{Ino: 2, Kind: api.File, Links: 1, Names: names, Bytes: b}, {Ino: 3, Kind: api.Dir, Links: 1, Names: names, Bytes: b},
			}}
			wantWoven(t, tree, []api.Fact{dirOf(1), entryOf(1, "a", 2), entryOf(1, "b", 3), fileOf(2, 1, 0), dirOf(3)})
		}
	}
	for _, l := range [][]api.Fact{nil, {}} {
		for _, piece := range []int{-1, 0, 1, 2, 255, 256} {
			wantNoTree(t, "no facts", l, piece)
		}
	}
}

// What is answered once is answered again, whatever was asked in between.
func TestAnswersHangOnNothingElse(t *testing.T) {
	tree := whole()
	for range 200 {
		got, e := woven.Tree(wholeFacts(), 2)
		if e != api.OK || !model.Same(got, tree) {
			t.Fatalf("Tree(the facts of whole) = %s, %d", text(got), e)
		}
		woven.Tree(wholeFacts(), 3)
		woven.Tree(wholeFacts()[1:], 2)
		woven.Facts(api.Tree{})
	}
}
