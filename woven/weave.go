package woven

import (
	"maps"
	"slices"
	"sort"

	"carrack/api"
	"carrack/fact"
	"carrack/model"
)

// root is the Ino of the directory from which all ways go.
const root = 1

// Tree answers the tree of which l are the facts.
func Tree(l []api.Fact, piece int) (t api.Tree, e api.Errno) {
	defer func() {
		if recover() != nil {
			t, e = api.Tree{}, api.ErrCorrupt
		}
	}()
	return weave(l, piece), api.OK
}

// need leaves, up to Tree, if what the facts of a tree have is not so.
func need(ok bool) {
	if !ok {
		panic(api.ErrCorrupt)
	}
}

// weaver goes from the root to all that there are entries of, and keeps each
// node that it reaches.
type weaver struct {
	facts   []api.Fact
	piece   int
	used    int // how many of the facts are of nodes that were reached
	reached map[int]api.Inode
}

// weave answers the tree of the facts. A fact that is used says what the tree
// says, so if all are used they are the tree's; whether it is one, with links and
// ways and limits, the model tells.
func weave(l []api.Fact, piece int) api.Tree {
	t, e := model.New(piece)
	need(e == api.OK)
	need(inOrder(l))
	w := weaver{facts: l, piece: piece, reached: map[int]api.Inode{}}
	w.reach(root)
	need(w.used == len(l))
	t.Nodes = w.nodes()
	need(model.Right(t))
	return t
}

// inOrder says whether all are keys, each ahead of the next one's.
func inOrder(l []api.Fact) bool {
	for i, f := range l {
		if !fact.MayKey(f.Key) {
			return false
		}
		if i > 0 && !fact.Before(l[i-1].Key, f.Key) {
			return false
		}
	}
	return true
}

// reach keeps the node of that Ino, and all that are under it: each of them once,
// so it ends where a directory is under itself, and no more than a tree may have,
// however many the facts tell of.
func (w *weaver) reach(ino int) {
	if _, again := w.reached[ino]; again {
		return
	}
	need(len(w.reached) < api.MaxNodes)
	n := w.node(ino)
	w.reached[ino] = n
	for _, name := range n.Names {
		w.reach(name.Ino)
	}
}

// nodes answers what was reached, by rising Ino.
func (w *weaver) nodes() []api.Inode {
	var l []api.Inode
	for _, ino := range slices.Sorted(maps.Keys(w.reached)) {
		l = append(l, w.reached[ino])
	}
	return l
}

// of answers the facts of the node of that Ino, which stand side by side.
func (w *weaver) of(ino int) []api.Fact {
	from := sort.Search(len(w.facts), func(i int) bool { return w.facts[i].Key.Ino >= ino })
	to := sort.Search(len(w.facts), func(i int) bool { return w.facts[i].Key.Ino > ino })
	return w.facts[from:to:to]
}

// node answers the node of that Ino, with what is in it. Of its facts the node's
// own stands first, as it does in order.
func (w *weaver) node(ino int) api.Inode {
	l := w.of(ino)
	need(len(l) > 0 && l[0].Key.What == api.OfNode)
	v, e := fact.Node(l[0].Value)
	need(e == api.OK)
	w.used += len(l)
	n := api.Inode{Ino: ino, Kind: v.Kind, Links: v.Links}
	if v.Kind == api.Dir {
		need(v.Size == 0)
		n.Names = names(l[1:])
	} else {
		n.Bytes = w.bytes(v.Size, l[1:])
	}
	return n
}

// names answers what stands in a directory, of its facts behind the first one.
func names(l []api.Fact) []api.Name {
	var out []api.Name
	for _, f := range l {
		need(f.Key.What == api.OfEntry)
		ino, e := fact.Entry(f.Value)
		need(e == api.OK)
		out = append(out, api.Name{Name: f.Key.Name, Ino: ino})
	}
	return out
}

// bytes answers what stands in a file of that size, of its facts behind the
// first one. The pieces of which there is none are noughts.
func (w *weaver) bytes(size int, l []api.Fact) []byte {
	out := make([]byte, size)
	for _, f := range l {
		need(f.Key.What == api.OfPiece)
		n := len(f.Value)
		need(n >= 1 && n <= w.piece && f.Value[n-1] != 0)
		at := f.Key.Chunk * w.piece
		need(at+n <= size)
		copy(out[at:], f.Value)
	}
	return out
}
