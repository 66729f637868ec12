package model

import (
	"cmp"
	"slices"
	"strings"

	"carrack/api"
	"carrack/path"
)

// own answers a list of its own with what stands in l.
func own[T any](l []T) []T {
	return sized(l, len(l))
}

// sized answers a list of its own of n items: those of l as far as they go, and
// zero values behind them.
func sized[T any](l []T, n int) []T {
	out := make([]T, n)
	copy(out, l)
	return out
}

// clone answers a tree that shares nothing with t, be t right or not.
func clone(t api.Tree) api.Tree {
	nodes := own(t.Nodes)
	for i := range nodes {
		nodes[i].Names = own(nodes[i].Names)
		nodes[i].Bytes = own(nodes[i].Bytes)
	}
	return api.Tree{Piece: t.Piece, Nodes: nodes}
}

// most answers how many bytes a file of the tree may have.
func most(t *api.Tree) int {
	return api.Pieces * t.Piece
}

// place answers where the node of that Ino stands, or would, among the nodes.
func place(t *api.Tree, ino int) (int, bool) {
	return slices.BinarySearchFunc(t.Nodes, ino, func(n api.Inode, ino int) int {
		return cmp.Compare(n.Ino, ino)
	})
}

// node answers the node of that Ino, nil if there is none. It is of use until
// a node is put in or taken out.
func node(t *api.Tree, ino int) *api.Inode {
	at, found := place(t, ino)
	if !found {
		return nil
	}
	return &t.Nodes[at]
}

// entry answers where the name stands, or would, in the directory.
func entry(dir *api.Inode, name string) (int, bool) {
	return slices.BinarySearchFunc(dir.Names, name, func(n api.Name, name string) int {
		return strings.Compare(n.Name, name)
	})
}

// spot is where a path leads: the directory in which it stands, by what name,
// the node at it, and how many names the path has. No node has the Ino 0: that
// is the directory of the root, and the node of a name that is not there.
type spot struct {
	dir   int
	name  string
	ino   int
	depth int
}

// isRoot says whether the path is the root's: it stands in no directory.
func (s spot) isRoot() bool {
	return s.depth == 0
}

// isThere says whether there is a node at the path.
func (s spot) isThere() bool {
	return s.ino != 0
}

// spots answers where the paths of the act lead; of an act without a second one
// to means nothing. Both paths are told ahead of both ways, as their errors are.
func spots(t *api.Tree, a api.Act) (at, to spot, e api.Errno) {
	names, e := path.Parse(a.Path)
	if e != api.OK {
		return spot{}, spot{}, e
	}
	var toNames []string
	if hasTo(a.Kind) {
		toNames, e = path.Parse(a.To)
		if e != api.OK {
			return spot{}, spot{}, e
		}
	}
	at, e = find(t, names)
	if e != api.OK {
		return spot{}, spot{}, e
	}
	to, e = find(t, toNames)
	if e != api.OK {
		return spot{}, spot{}, e
	}
	return at, to, api.OK
}

// find goes the way of the names. What stands behind the last one is told by
// each act for itself: only what is to be gone through has to be a directory.
func find(t *api.Tree, names []string) (spot, api.Errno) {
	at := spot{ino: root}
	for i, name := range names {
		if !at.isThere() {
			return spot{}, api.ErrNone
		}
		dir := node(t, at.ino)
		if dir.Kind != api.Dir {
			return spot{}, api.ErrKind
		}
		at = spot{dir: at.ino, name: name, depth: i + 1}
		if n, found := entry(dir, name); found {
			at.ino = dir.Names[n].Ino
		}
	}
	return at, api.OK
}

// free answers the least Ino that no node has. Inos rise from 1 on, so it is
// one more than the place at which the first one has left it out.
func free(t *api.Tree) int {
	for i, n := range t.Nodes {
		if n.Ino != i+1 {
			return i + 1
		}
	}
	return len(t.Nodes) + 1
}

// put puts the node in among the others.
func put(t *api.Tree, n api.Inode) {
	at, _ := place(t, n.Ino)
	t.Nodes = slices.Insert(t.Nodes, at, n)
}

// enter gives the node of that Ino the name of the spot, which nothing has.
func enter(t *api.Tree, s spot, ino int) {
	dir := node(t, s.dir)
	at, _ := entry(dir, s.name)
	dir.Names = slices.Insert(dir.Names, at, api.Name{Name: s.name, Ino: ino})
}

// strike takes the name of the spot out of its directory.
func strike(t *api.Tree, s spot) {
	dir := node(t, s.dir)
	at, _ := entry(dir, s.name)
	dir.Names = slices.Delete(dir.Names, at, at+1)
}

// lose takes away a name, and with the last one the node. A directory has one.
func lose(t *api.Tree, s spot) {
	strike(t, s)
	at, _ := place(t, s.ino)
	t.Nodes[at].Links--
	if t.Nodes[at].Links == 0 {
		t.Nodes = slices.Delete(t.Nodes, at, at+1)
	}
}

// walk tells of each way that goes on from the node how many names it has, and
// to which node it leads. It ends where no directory is under itself.
func walk(t *api.Tree, ino, depth int, tell func(ino, depth int)) {
	for _, n := range node(t, ino).Names {
		tell(n.Ino, depth+1)
		walk(t, n.Ino, depth+1, tell)
	}
}
