package woven_test

import (
	"fmt"
	"slices"
	"strings"

	"carrack/api"
	"carrack/model"
)

// Facts by hand: their values are laid here byte by byte.

func nodeOf(ino int, kind uint8, links, size int) api.Fact {
	return api.Fact{Key: api.Key{Ino: ino, What: 1}, Value: []byte{kind, byte(links), byte(size), byte(size >> 8)}}
}

func dirOf(ino int) api.Fact               { return nodeOf(ino, 1, 1, 0) }
func fileOf(ino, links, size int) api.Fact { return nodeOf(ino, 2, links, size) }

func entryOf(dir int, name string, ino int) api.Fact {
	return api.Fact{Key: api.Key{Ino: dir, What: 2, Name: name}, Value: []byte{byte(ino), byte(ino >> 8)}}
}

func pieceOf(ino, chunk int, b string) api.Fact {
	return api.Fact{Key: api.Key{Ino: ino, What: 3, Chunk: chunk}, Value: []byte(b)}
}

// plainFacts tells the facts of a tree byte by byte: each that is not 0 makes
// the value of its piece reach up to it.
func plainFacts(t api.Tree) []api.Fact {
	var l []api.Fact
	for _, n := range t.Nodes {
		l = append(l, nodeOf(n.Ino, n.Kind, n.Links, len(n.Bytes)))
		for _, x := range n.Names {
			l = append(l, entryOf(n.Ino, x.Name, x.Ino))
		}
		values := make([]string, 8)
		for i, b := range n.Bytes {
			chunk, at := i/t.Piece, i%t.Piece
			if b != 0 {
				values[chunk] += strings.Repeat("\x00", at-len(values[chunk])) + string([]byte{b})
			}
		}
		for chunk, v := range values {
			if v != "" {
				l = append(l, pieceOf(n.Ino, chunk, v))
			}
		}
	}
	return l
}

// plainTree builds whatever the facts have of a tree, and answers it if it is
// one, and these are its facts.
func plainTree(l []api.Fact, piece int) (api.Tree, bool) {
	t := api.Tree{Piece: piece}
	if piece < 1 || piece > 255 {
		return api.Tree{}, false
	}
	for _, f := range l {
		at := slices.IndexFunc(t.Nodes, func(n api.Inode) bool { return n.Ino == f.Key.Ino })
		switch {
		case f.Key.What == 1 && len(f.Value) == 4:
			n := api.Inode{Ino: f.Key.Ino, Kind: f.Value[0], Links: int(f.Value[1])}
			if n.Kind == 2 {
				n.Bytes = make([]byte, int(f.Value[2])+256*int(f.Value[3]))
			}
			t.Nodes = append(t.Nodes, n)
		case f.Key.What == 2 && len(f.Value) == 2 && at >= 0:
			ino := int(f.Value[0]) + 256*int(f.Value[1])
			t.Nodes[at].Names = append(t.Nodes[at].Names, api.Name{Name: f.Key.Name, Ino: ino})
		case f.Key.What == 3 && f.Key.Chunk >= 0 && f.Key.Chunk < 8 && at >= 0:
			b := t.Nodes[at].Bytes
			copy(b[min(f.Key.Chunk*piece, len(b)):], f.Value)
		default:
			return api.Tree{}, false
		}
	}
	if !model.Right(t) || factsText(plainFacts(t)) != factsText(l) {
		return api.Tree{}, false
	}
	return t, true
}

// text tells a tree so that two trees of one text are the same.
func text(t api.Tree) string {
	l := []string{fmt.Sprint("piece ", t.Piece)}
	for _, n := range t.Nodes {
		s := fmt.Sprintf("%d kind %d links %d", n.Ino, n.Kind, n.Links)
		for _, x := range n.Names {
			s += fmt.Sprintf(" %q=%d", x.Name, x.Ino)
		}
		if len(n.Bytes) > 0 {
			s += fmt.Sprintf(" %q", n.Bytes)
		}
		l = append(l, s)
	}
	return strings.Join(l, "; ")
}

// factsText tells facts so that two lists of one text are the same.
func factsText(facts []api.Fact) string {
	var l []string
	for _, f := range facts {
		l = append(l, fmt.Sprintf("%d/%d/%q/%d: %x", f.Key.Ino, f.Key.What, f.Key.Name, f.Key.Chunk, f.Value))
	}
	return strings.Join(l, "; ")
}
