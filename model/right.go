package model

import (
	"carrack/api"
	"carrack/path"
)

// Right says whether t is a tree.
func Right(t api.Tree) bool {
	// Each of these leans on those ahead of it: nodes are found by their order,
	// and a way ends because no directory has two entries.
	return isPiece(t.Piece) && areNodes(&t) && areEntered(&t) && areReached(&t)
}

// areNodes says whether the nodes begin with the root, stand in order, and each
// is right by itself.
func areNodes(t *api.Tree) bool {
	if len(t.Nodes) == 0 || len(t.Nodes) > api.MaxNodes {
		return false
	}
	if t.Nodes[0].Ino != root || t.Nodes[0].Kind != api.Dir {
		return false
	}
	for i := range t.Nodes {
		if i > 0 && t.Nodes[i-1].Ino >= t.Nodes[i].Ino {
			return false
		}
		if !isNode(t, &t.Nodes[i]) {
			return false
		}
	}
	return true
}

// isNode says whether the node, by itself, may be one of the tree.
func isNode(t *api.Tree, n *api.Inode) bool {
	switch n.Kind {
	case api.Dir:
		return n.Links == 1 && len(n.Bytes) == 0 && areNames(n.Names)
	case api.File:
		return n.Links >= 1 && n.Links <= api.MaxLinks && len(n.Names) == 0 && len(n.Bytes) <= most(t)
	}
	return false
}

// areNames says whether all are names and stand in order, so that no two of
// them are the same.
func areNames(l []api.Name) bool {
	for i, n := range l {
		if !path.Name(n.Name) {
			return false
		}
		if i > 0 && l[i-1].Name >= n.Name {
			return false
		}
	}
	return true
}

// areEntered says whether each node has as many entries as it has links, the
// root none, and nothing else has one.
func areEntered(t *api.Tree) bool {
	entries := map[int]int{}
	for _, dir := range t.Nodes {
		for _, n := range dir.Names {
			if node(t, n.Ino) == nil {
				return false
			}
			entries[n.Ino]++
		}
	}
	for _, n := range t.Nodes {
		want := n.Links
		if n.Ino == root {
			want = 0
		}
		if entries[n.Ino] != want {
			return false
		}
	}
	return true
}

// areReached says whether a way leads from the root to each node, and none of
// them is too long.
func areReached(t *api.Tree) bool {
	reached := map[int]int{root: 0}
	longest := 0
	walk(t, root, 0, func(ino, depth int) {
		reached[ino] = depth
		longest = max(longest, depth)
	})
	return len(reached) == len(t.Nodes) && longest <= api.MaxDepth
}
