package steps_test

import (
	"bytes"
	"fmt"
	"slices"
	"strings"
	"testing"

	"carrack/api"
	"carrack/model"
	"carrack/steps"
)

// some is a tree with a bit of all, each list of which has room behind it in
// which something stands.
func some(t *testing.T) api.Tree {
	tree := fresh(t, 4, mkdir("/d"), create("/f"), mkdir("/e"), write("/f", 0, "abcdefghij"), create("/d/g"), link("/f", "/d/h"), write("/d/g", 5, "xyz"))
	for i := range tree.Nodes {
		n := &tree.Nodes[i]
		n.Names = append(slices.Clone(n.Names), api.Name{Name: "room", Ino: 77})[:len(n.Names)]
		n.Bytes = append(bytes.Clone(n.Bytes), "room behind all of its bytes"...)[:len(n.Bytes)]
	}
	tree.Nodes = append(tree.Nodes, api.Inode{Ino: 80, Kind: 7})[:len(tree.Nodes)]
	return tree
}

// wholeTree tells all that a tree reaches, the room behind its lists, too.
func wholeTree(t api.Tree) string {
	all := api.Tree{Piece: t.Piece, Nodes: slices.Clone(t.Nodes[:cap(t.Nodes)])}
	s := fmt.Sprint(len(t.Nodes), ": ")
	for i := range all.Nodes {
		n := &all.Nodes[i]
		s += fmt.Sprint(len(n.Names), n.Names == nil, len(n.Bytes), n.Bytes == nil, "; ")
		n.Names, n.Bytes = n.Names[:cap(n.Names)], n.Bytes[:cap(n.Bytes)]
	}
	return s + text(all)
}

// spoilTree writes over all that the tree reaches.
func spoilTree(t api.Tree) {
	all := t.Nodes[:cap(t.Nodes)]
	for i := range all {
		names, b := all[i].Names[:cap(all[i].Names)], all[i].Bytes[:cap(all[i].Bytes)]
		for j := range names {
			names[j] = api.Name{Name: "SPOILT", Ino: -9}
		}
		for j := range b {
			b[j] = 'X'
		}
		all[i] = api.Inode{Ino: -9, Kind: 9, Links: -9}
	}
}

// spoilStep writes over all that the step reaches, the room behind it too.
func spoilStep(l step) {
	all := l[:cap(l)]
	for i := range all {
		b := all[i].Value[:cap(all[i].Value)]
		for j := range b {
			b[j] = 'X'
		}
		all[i] = gone(api.Key{Ino: -9})
	}
}

// someActs are acts on some: of each kind, those that refuse too.
func someActs() []api.Act {
	b := append([]byte("STUVWXYZ"), "room behind"...)[:8]
	return []api.Act{
		mkdir("/x"), create("/d/x"), rmdir("/e"), rmdir("/d"), link("/f", "/x"), unlink("/f"), unlink("/d/g"), rename("/d/g", "/f"), rename("/d", "/e"),
		{Kind: api.ActWrite, Path: "/f", At: 3, Bytes: b}, {Kind: api.ActWrite, Path: "/f", At: 30, Bytes: b}, {Kind: api.ActWrite, Path: "/d/g", At: 9, Bytes: b},
		cutTo("/f", 3), cutTo("/f", 30), {Kind: api.ActRead, Path: "/f", N: 20}, {Kind: api.ActStat, Path: "/f"}, {Kind: api.ActList, Path: "/d"}, {},
	}
}

func TestHandedInStays(t *testing.T) {
	for _, a := range someActs() {
		tree, other := some(t), some(t)
		was, wasBytes := wholeTree(tree), string(a.Bytes[:cap(a.Bytes)])
		for _, l := range notTrees() {
			steps.Of(l, a)
		}
		_, behind, _ := steps.Of(tree, a)
		steps.Between(tree, behind)
		steps.Between(behind, tree)
		steps.Between(tree, other)
		if wholeTree(tree) != was || wholeTree(other) != was || string(a.Bytes[:cap(a.Bytes)]) != wasBytes {
			t.Errorf("Of(.., %+v): what is handed in has changed", a)
		}
	}
	l := step{toEntry(1, "a", 2), gone(nodeKey(3)), {Key: nodeKey(4), Value: []byte("1234room")[:4]}, {Key: nodeKey(5)}}
	given := [][]api.Change{l[:3], nil, {}, l[:1], l}[:4]
	was := stepsText(given[:5]) + string(l[2].Value[:8])
	steps.Cost(given)
	if now := stepsText(given[:5]) + string(l[2].Value[:8]); now != was {
		t.Errorf("Cost: what is handed in has changed: %s; was %s", now, was)
	}
}

// told is all that Of answers, as text.
func told(l [][]api.Change, behind api.Tree, answer api.Answer) string {
	return stepsText(l) + " | " + text(behind) + " | " + answerText(answer)
}

func TestAnswersAreNewMemory(t *testing.T) {
	for _, a := range someActs() {
		tree := some(t)
		was, wasBytes := wholeTree(tree), string(a.Bytes[:cap(a.Bytes)])
		first, firstTree, firstAnswer := steps.Of(tree, a)
		want := told(first, firstTree, firstAnswer)
		second, secondTree, secondAnswer := steps.Of(tree, a)
		if got := told(second, secondTree, secondAnswer); got != want {
			t.Fatalf("Of(.., %+v) = %s, then %s", a, want, got)
		}
		for _, l := range first[:cap(first)] {
			spoilStep(l)
		}
		spoilTree(firstTree)
		clear(firstAnswer.Bytes[:cap(firstAnswer.Bytes)])
		clear(firstAnswer.Names[:cap(firstAnswer.Names)])
		if wholeTree(tree) != was || string(a.Bytes[:cap(a.Bytes)]) != wasBytes {
			t.Errorf("Of(.., %+v): the answer shares memory with what was handed in", a)
		}
		if got := told(second, secondTree, secondAnswer); got != want {
			t.Errorf("Of(.., %+v): two answers share memory: %s; want %s", a, got, want)
		}
		spoilTree(tree)
		b := a.Bytes[:cap(a.Bytes)]
		keep := bytes.Clone(b)
		clear(b)
		if got := told(second, secondTree, secondAnswer); got != want {
			t.Errorf("Of(.., %+v): what was handed in is kept: %s; want %s", a, got, want)
		}
		copy(b, keep)
	}
}

// The lists of one answer share no memory: what is written over in one of them,
// or appended to it, is seen in no other.
func TestListsOfOneAnswer(t *testing.T) {
	all := strings.Repeat("x", 32)
	a := write("/f", 0, all)
	tree := fresh(t, 4, create("/f"))
	fresh, behind, _ := steps.Of(tree, a)
	want, wantTree := make([]string, len(fresh)), text(behind)
	for i, l := range fresh {
		want[i] = stepText(l)
	}
	if len(want) != 8 {
		t.Fatalf("%d steps", len(want))
	}
	for i := range want {
		got, behind, _ := steps.Of(tree, a)
		_ = append(got[i], gone(nodeKey(9)), gone(nodeKey(9)))
		for j := range want {
			if stepText(got[j]) != want[j] {
				t.Errorf("what is appended to the step %d is seen in the step %d: %s", i, j, stepText(got[j]))
			}
		}
		spoilStep(got[i])
		for j := range want {
			if j != i && stepText(got[j]) != want[j] {
				t.Errorf("the steps %d and %d share memory: %s", i, j, stepText(got[j]))
			}
		}
		if text(behind) != wantTree {
			t.Errorf("the step %d shares memory with the tree", i)
		}
		again, behind, _ := steps.Of(tree, a)
		spoilTree(behind)
		if stepText(again[i]) != want[i] {
			t.Errorf("the tree shares memory with the step %d", i)
		}
	}
}

func TestBetweenIsNewMemory(t *testing.T) {
	tree := some(t)
	behind, _ := model.Do(tree, write("/f", 2, "XYZXYZ"))
	was, wasBehind := wholeTree(tree), wholeTree(behind)
	want := stepText(plainBetween(tree, behind))
	first, second := steps.Between(tree, behind), steps.Between(tree, behind)
	spoilStep(first)
	if wholeTree(tree) != was || wholeTree(behind) != wasBehind {
		t.Error("the changes share memory with the trees")
	}
	if stepText(second) != want {
		t.Errorf("two answers share memory: %s; want %s", stepText(second), want)
	}
	for i := range second {
		third := steps.Between(tree, behind)
		spoilStep(third[i : i+1 : i+1])
		third[i] = second[i]
		if stepText(third) != want {
			t.Errorf("the value %d shares memory with another one", i)
		}
	}
	spoilTree(tree)
	spoilTree(behind)
	if stepText(second) != want {
		t.Errorf("the trees are kept: %s; want %s", stepText(second), want)
	}
}

// Lists that are nil and lists without elements are the same.
func TestNilAndEmpty(t *testing.T) {
	for _, names := range [][]api.Name{nil, {}} {
		for _, b := range [][]byte{nil, {}} {
			tree := api.Tree{Piece: 2, Nodes: []api.Inode{
				{Ino: 1, Kind: api.Dir, Links: 1, Names: []api.Name{{Name: "a", Ino: 2}, {Name: "b", Ino: 3}}, Bytes: b},
				{Ino: 2, Kind: api.File, Links: 1, Names: names, Bytes: b}, {Ino: 3, Kind: api.Dir, Links: 1, Names: names, Bytes: b},
			}}
			wantOf(t, tree, write("/a", 0, "xyz"), step{toFile(2, 1, 2), toPiece(2, 0, "xy")}, step{toFile(2, 1, 3), toPiece(2, 1, "z")})
			wantOf(t, tree, create("/b/c"), step{toEntry(3, "c", 4), toFile(4, 1, 0)})
			wantNone(t, tree, api.Act{Kind: api.ActWrite, Path: "/a", At: 1, Bytes: b})
			other := fresh(t, 2, create("/a"), mkdir("/b"))
			if l := append(steps.Between(tree, other), steps.Between(other, tree)...); len(l) != 0 {
				t.Errorf("Between = %s", stepText(l))
			}
		}
	}
	for _, nodes := range [][]api.Inode{nil, {}} {
		if l := append(steps.Between(api.Tree{Nodes: nodes}, api.Tree{}), steps.Between(api.Tree{Piece: 4, Nodes: nodes}, api.Tree{Piece: 4})...); len(l) != 0 {
			t.Errorf("Between of nothing = %s", stepText(l))
		}
	}
	for _, l := range [][][]api.Change{nil, {}} {
		wantCost(t, 0, l...)
	}
	for _, v := range [][]byte{nil, {}} {
		wantCost(t, 6, step{{Key: nodeKey(1), Value: v}})
	}
}

// What is answered once is answered again, whatever was asked in between.
func TestAnswersHangOnNothingElse(t *testing.T) {
	for _, a := range someActs() {
		want := told(steps.Of(some(t), a))
		for _, b := range someActs() {
			_, behind, _ := steps.Of(some(t), b)
			steps.Of(behind, a)
			steps.Between(behind, some(t))
			if got := told(steps.Of(some(t), a)); got != want {
				t.Fatalf("Of(.., %+v) = %s; want %s", a, got, want)
			}
		}
	}
}
