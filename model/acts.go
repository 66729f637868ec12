package model

import "carrack/api"

// add makes an empty directory or file.
func add(t *api.Tree, at spot, kind uint8) api.Answer {
	switch {
	case at.isThere():
		return refusal(api.ErrTwice)
	case len(t.Nodes) >= api.MaxNodes:
		return refusal(api.ErrLimit)
	}
	ino := free(t)
	put(t, api.Inode{Ino: ino, Kind: kind, Links: 1})
	enter(t, at, ino)
	return api.Answer{Ino: ino}
}

// kindAt answers the error of a path at which there is nothing, or what is of
// another kind than is wanted.
func kindAt(t *api.Tree, at spot, kind uint8) api.Errno {
	switch {
	case !at.isThere():
		return api.ErrNone
	case node(t, at.ino).Kind != kind:
		return api.ErrKind
	}
	return api.OK
}

// rmdir takes away an empty directory.
func rmdir(t *api.Tree, at spot) api.Answer {
	if e := kindAt(t, at, api.Dir); e != api.OK {
		return refusal(e)
	}
	switch {
	case at.isRoot():
		return refusal(api.ErrArg)
	case len(node(t, at.ino).Names) > 0:
		return refusal(api.ErrBusy)
	}
	lose(t, at)
	return api.Answer{}
}

// link gives a file one name more.
func link(t *api.Tree, at, to spot) api.Answer {
	if e := kindAt(t, at, api.File); e != api.OK {
		return refusal(e)
	}
	file := node(t, at.ino)
	switch {
	case to.isThere():
		return refusal(api.ErrTwice)
	case file.Links >= api.MaxLinks:
		return refusal(api.ErrLimit)
	}
	file.Links++
	enter(t, to, at.ino)
	return api.Answer{}
}

// unlink takes away a file's name.
func unlink(t *api.Tree, at spot) api.Answer {
	if e := kindAt(t, at, api.File); e != api.OK {
		return refusal(e)
	}
	lose(t, at)
	return api.Answer{}
}

// rename gives what is at the one path the other one, in place of what was
// there. The bool says whether that one is under the first.
func rename(t *api.Tree, at, to spot, under bool) api.Answer {
	switch {
	case !at.isThere():
		return refusal(api.ErrNone)
	case at.isRoot(), under, to.isRoot():
		return refusal(api.ErrArg)
	case at.ino == to.ino:
		return api.Answer{}
	}
	if e := mayStandFor(t, at, to); e != api.OK {
		return refusal(e)
	}
	if to.depth+height(t, at.ino) > api.MaxDepth {
		return refusal(api.ErrLimit)
	}
	if to.isThere() {
		lose(t, to)
	}
	strike(t, at)
	enter(t, to, at.ino)
	return api.Answer{}
}

// mayStandFor answers the error of a node at the other path that may not give
// way to the one.
func mayStandFor(t *api.Tree, at, to spot) api.Errno {
	if !to.isThere() {
		return api.OK
	}
	one, other := node(t, at.ino), node(t, to.ino)
	switch {
	case one.Kind != other.Kind:
		return api.ErrKind
	case len(other.Names) > 0:
		return api.ErrBusy
	}
	return api.OK
}

// height answers how many names the longest way has that goes on from the node.
func height(t *api.Tree, ino int) int {
	longest := 0
	walk(t, ino, 0, func(_, depth int) {
		longest = max(longest, depth)
	})
	return longest
}

// fileAt answers the file at the path of an act on bytes, and the errors that
// these acts share.
func fileAt(t *api.Tree, at spot, a api.Act) (*api.Inode, api.Errno) {
	if e := kindAt(t, at, api.File); e != api.OK {
		return nil, e
	}
	if a.At < 0 || a.N < 0 {
		return nil, api.ErrArg
	}
	return node(t, at.ino), api.OK
}

// write lays bytes into a file.
func write(t *api.Tree, at spot, a api.Act) api.Answer {
	file, e := fileAt(t, at, a)
	if e != api.OK {
		return refusal(e)
	}
	// No bytes stand nowhere: the file does not even grow up to their place.
	if len(a.Bytes) == 0 {
		return api.Answer{}
	}
	// Told by a difference, for the sum may be more than an int holds.
	if a.At > most(t)-len(a.Bytes) {
		return refusal(api.ErrLimit)
	}
	file.Bytes = sized(file.Bytes, max(len(file.Bytes), a.At+len(a.Bytes)))
	copy(file.Bytes[a.At:], a.Bytes)
	return api.Answer{N: len(a.Bytes)}
}

// cut gives a file as many bytes as the act says.
func cut(t *api.Tree, at spot, a api.Act) api.Answer {
	file, e := fileAt(t, at, a)
	if e != api.OK {
		return refusal(e)
	}
	if a.N > most(t) {
		return refusal(api.ErrLimit)
	}
	file.Bytes = sized(file.Bytes, a.N)
	return api.Answer{}
}

// read answers a file's bytes.
func read(t *api.Tree, at spot, a api.Act) api.Answer {
	file, e := fileAt(t, at, a)
	if e != api.OK {
		return refusal(e)
	}
	behind := file.Bytes[min(a.At, len(file.Bytes)):]
	return api.Answer{Bytes: sized(behind, min(a.N, len(behind)))}
}

// stat answers what there is to tell of a node. A directory has no bytes, so
// its size is 0.
func stat(t *api.Tree, at spot) api.Answer {
	if !at.isThere() {
		return refusal(api.ErrNone)
	}
	n := node(t, at.ino)
	return api.Answer{Ino: n.Ino, Node: api.Node{Kind: n.Kind, Links: n.Links, Size: len(n.Bytes)}}
}

// list answers the names in a directory.
func list(t *api.Tree, at spot) api.Answer {
	if e := kindAt(t, at, api.Dir); e != api.OK {
		return refusal(e)
	}
	var names []string
	for _, n := range node(t, at.ino).Names {
		names = append(names, n.Name)
	}
	return api.Answer{Names: names}
}
