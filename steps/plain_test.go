package steps_test

import (
	"fmt"
	"slices"
	"sort"
	"strings"

	"carrack/api"
	"carrack/model"
)

// plainFacts tells the facts of a tree byte by byte: each that is not 0 makes
// the value of its piece reach up to it.
func plainFacts(t api.Tree) []api.Fact {
	var l []api.Fact
	for _, n := range t.Nodes {
		l = append(l, api.Fact{Key: nodeKey(n.Ino), Value: nodeValue(n.Kind, n.Links, len(n.Bytes))})
		for _, x := range n.Names {
			l = append(l, api.Fact{Key: entryKey(n.Ino, x.Name), Value: []byte{byte(x.Ino), byte(x.Ino >> 8)}})
		}
		values := make([]string, 8)
		for i, b := range n.Bytes {
			chunk, at := i/t.Piece, i%t.Piece
			if b != 0 {
				values[chunk] += strings.Repeat("\x00", at-len(values[chunk])) + string([]byte{b})
			}
		}
		for chunk, v := range values {
			if v != "" {
				l = append(l, api.Fact{Key: pieceKey(n.Ino, chunk), Value: []byte(v)})
			}
		}
	}
	return l
}

// sortKey tells a key so that texts stand in the order of keys.
func sortKey(k api.Key) string {
	return fmt.Sprintf("%05d/%d/%s\x00/%d", k.Ino, k.What, k.Name, k.Chunk)
}

// plainBetween takes the facts of both trees from maps, key by key.
func plainBetween(t, u api.Tree) []api.Change {
	was, is, keys := map[string]string{}, map[string]string{}, map[string]api.Key{}
	for _, f := range plainFacts(t) {
		was[sortKey(f.Key)], keys[sortKey(f.Key)] = string(f.Value), f.Key
	}
	for _, f := range plainFacts(u) {
		is[sortKey(f.Key)], keys[sortKey(f.Key)] = string(f.Value), f.Key
	}
	var texts []string
	for s := range keys {
		texts = append(texts, s)
	}
	sort.Strings(texts)
	var out []api.Change
	for _, s := range texts {
		v, there := is[s]
		switch {
		case !there:
			out = append(out, gone(keys[s]))
		case v != was[s]:
			out = append(out, to(keys[s], v))
		}
	}
	return out
}

// plainTrees answers the trees behind the steps, also of those that change
// nothing: of a write byte by byte, with one where a piece ends.
func plainTrees(t api.Tree, a api.Act) []api.Tree {
	behind, answer := model.Do(t, a)
	if answer.E != api.OK {
		return nil
	}
	if a.Kind != api.ActWrite || len(a.Bytes) == 0 {
		return []api.Tree{behind}
	}
	var out []api.Tree
	_, stat := model.Do(t, api.Act{Kind: api.ActStat, Path: a.Path})
	tree := copied(t)
	at := slices.IndexFunc(tree.Nodes, func(n api.Inode) bool { return n.Ino == stat.Ino })
	for i, b := range a.Bytes {
		file := &tree.Nodes[at].Bytes
		for len(*file) <= a.At+i {
			*file = append(*file, 0)
		}
		(*file)[a.At+i] = b
		if (a.At+i+1)%t.Piece == 0 || i == len(a.Bytes)-1 {
			out = append(out, copied(tree))
		}
	}
	return out
}

// plainSteps answers the steps of the act.
func plainSteps(t api.Tree, a api.Act) [][]api.Change {
	var out [][]api.Change
	for _, tree := range plainTrees(t, a) {
		if step := plainBetween(t, tree); len(step) > 0 {
			out = append(out, step)
		}
		t = tree
	}
	return out
}

// plainCost counts the bytes by hand.
func plainCost(steps [][]api.Change) int {
	most := 0
	for _, step := range steps {
		n := 1
		for _, c := range step {
			n += 1 + []int{0, 3, 4 + len(c.Key.Name), 4}[c.Key.What]
			if !c.Gone {
				n += 1 + len(c.Value)
			}
		}
		most = max(most, n)
	}
	return most
}

// copied answers a tree that shares nothing with t.
func copied(t api.Tree) api.Tree {
	t.Nodes = slices.Clone(t.Nodes)
	for i := range t.Nodes {
		t.Nodes[i].Names = slices.Clone(t.Nodes[i].Names)
		t.Nodes[i].Bytes = slices.Clone(t.Nodes[i].Bytes)
	}
	return t
}

// text tells a tree so that two trees of one text are the same.
func text(t api.Tree) string {
	l := []string{fmt.Sprint("piece ", t.Piece)}
	for _, n := range t.Nodes {
		s := fmt.Sprintf("%d kind %d links %d", n.Ino, n.Kind, n.Links)
		for _, x := range n.Names {
			s += fmt.Sprintf(" %q=%d", x.Name, x.Ino)
		}
		if len(n.Bytes) > 0 {
			s += fmt.Sprintf(" %q", n.Bytes)
		}
		l = append(l, s)
	}
	return strings.Join(l, "; ")
}

// stepText tells a step so that two steps of one text are the same.
func stepText(step []api.Change) string {
	var l []string
	for _, c := range step {
		s := fmt.Sprintf("%d/%d/%q/%d: %x", c.Key.Ino, c.Key.What, c.Key.Name, c.Key.Chunk, c.Value)
		if c.Gone {
			s += " gone"
		}
		l = append(l, s)
	}
	return "{" + strings.Join(l, "; ") + "}"
}

// stepsText tells steps so that two lists of one text are the same.
func stepsText(steps [][]api.Change) string {
	var l []string
	for _, step := range steps {
		l = append(l, stepText(step))
	}
	return strings.Join(l, " then ")
}

// answerText tells an answer so that two of one text are the same.
func answerText(a api.Answer) string {
	return fmt.Sprintf("%d %d %d %v %q %q", a.E, a.Ino, a.N, a.Node, a.Bytes, a.Names)
}
