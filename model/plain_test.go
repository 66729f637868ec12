package model_test

import (
	"bytes"
	"fmt"
	"regexp"
	"slices"
	"strings"

	"carrack/api"
)

// plain is a tree as a list of its ways: what the document says of acts is said
// here of whole paths, and once more.
type plain struct {
	piece int
	at    map[string]int // the Ino at each path; at "" the root's
	kind  map[int]uint8
	bytes map[int][]byte
}

func newPlain(piece int) *plain {
	return &plain{piece, map[string]int{"": 1}, map[int]uint8{1: api.Dir}, map[int][]byte{}}
}

// plainOf answers the plain form of a tree that is right.
func plainOf(t api.Tree) *plain {
	p := newPlain(t.Piece)
	for _, n := range t.Nodes {
		p.kind[n.Ino] = n.Kind
		if len(n.Bytes) > 0 {
			p.bytes[n.Ino] = bytes.Clone(n.Bytes)
		}
	}
	for range api.MaxDepth {
		for s, ino := range copied(p.at) {
			for _, n := range t.Nodes {
				for _, x := range n.Names {
					if n.Ino == ino {
						p.at[s+"/"+x.Name] = x.Ino
					}
				}
			}
		}
	}
	return p
}

func copied(m map[string]int) map[string]int {
	out := map[string]int{}
	for k, v := range m {
		out[k] = v
	}
	return out
}

// paths answers all paths, in order; the root's is "".
func (p *plain) paths() []string {
	var l []string
	for s := range p.at {
		l = append(l, s)
	}
	slices.Sort(l)
	return l
}

func (p *plain) links(ino int) int {
	n := 0
	for _, i := range p.at {
		if i == ino {
			n++
		}
	}
	return n
}

// names answers what stands right in the directory.
func (p *plain) names(dir string) []string {
	var l []string
	for _, s := range p.paths() {
		if s != "" && s[:strings.LastIndex(s, "/")] == dir {
			l = append(l, s[strings.LastIndex(s, "/")+1:])
		}
	}
	slices.Sort(l)
	return l
}

// tree answers the tree of these ways.
func (p *plain) tree() api.Tree {
	t := api.Tree{Piece: p.piece}
	for ino := 1; len(t.Nodes) < len(p.kind); ino++ {
		if p.kind[ino] == 0 {
			continue
		}
		n := api.Inode{Ino: ino, Kind: p.kind[ino], Links: p.links(ino), Bytes: p.bytes[ino]}
		for _, dir := range p.paths() {
			if p.at[dir] != ino || n.Kind != api.Dir {
				continue
			}
			for _, name := range p.names(dir) {
				n.Names = append(n.Names, api.Name{Name: name, Ino: p.at[dir+"/"+name]})
			}
		}
		t.Nodes = append(t.Nodes, n)
	}
	return t
}

var isPath = regexp.MustCompile(`^(/[a-z0-9.-]{1,12})+$`)

// plainPath answers the path without the root's stroke.
func plainPath(s string) (string, api.Errno) {
	if s == "/" {
		return "", api.OK
	}
	if !isPath.MatchString(s) || strings.Contains(s+"/", "/./") || strings.Contains(s+"/", "/../") {
		return "", api.ErrArg
	}
	if strings.Count(s, "/") > 6 {
		return "", api.ErrLimit
	}
	return s, api.OK
}

// way answers the error of the directories that the path goes through.
func (p *plain) way(s string) api.Errno {
	for i := 1; i < len(s); i++ {
		if s[i] != '/' {
			continue
		}
		switch p.kind[p.at[s[:i]]] {
		case 0:
			return api.ErrNone
		case api.File:
			return api.ErrKind
		}
	}
	return api.OK
}

func (p *plain) do(a api.Act) api.Answer {
	e := api.OK
	first := func(x api.Errno) {
		if e == api.OK {
			e = x
		}
	}
	if a.Kind < api.ActMkdir || a.Kind > api.ActList {
		return api.Answer{E: api.ErrArg}
	}
	two := a.Kind == api.ActLink || a.Kind == api.ActRename
	s, x := plainPath(a.Path)
	first(x)
	to := ""
	if two {
		to, x = plainPath(a.To)
		first(x)
	}
	if e == api.OK {
		first(p.way(s))
		first(p.way(to))
	}
	if e != api.OK {
		return api.Answer{E: e}
	}
	if two {
		return api.Answer{E: p.doTwo(a.Kind, s, to)}
	}
	return p.doOne(a, s)
}

// doTwo does what has two paths.
func (p *plain) doTwo(k api.ActKind, s, to string) api.Errno {
	ino, other := p.at[s], p.at[to]
	switch {
	case ino == 0:
		return api.ErrNone
	case k == api.ActLink:
		switch {
		case p.kind[ino] == api.Dir:
			return api.ErrKind
		case other != 0:
			return api.ErrTwice
		case p.links(ino) == 6:
			return api.ErrLimit
		}
		p.at[to] = ino
		return api.OK
	case s == "", to == "", strings.HasPrefix(to, s+"/"):
		return api.ErrArg
	case ino == other:
		return api.OK
	case other != 0 && p.kind[ino] != p.kind[other]:
		return api.ErrKind
	case other != 0 && len(p.names(to)) > 0:
		return api.ErrBusy
	}
	for _, under := range p.paths() {
		if strings.HasPrefix(under, s+"/") && strings.Count(to+under[len(s):], "/") > 6 {
			return api.ErrLimit
		}
	}
	p.lose(to)
	for _, under := range p.paths() {
		if under == s || strings.HasPrefix(under, s+"/") {
			p.at[to+under[len(s):]] = p.at[under]
			delete(p.at, under)
		}
	}
	return api.OK
}

// lose takes away a path, and what has none any more.
func (p *plain) lose(s string) {
	ino := p.at[s]
	delete(p.at, s)
	if p.links(ino) == 0 {
		delete(p.kind, ino)
		delete(p.bytes, ino)
	}
}

// doOne does what has one path.
func (p *plain) doOne(a api.Act, s string) api.Answer {
	ino := p.at[s]
	kind, have := p.kind[ino], p.bytes[ino]
	switch a.Kind {
	case api.ActMkdir, api.ActCreate:
		return p.add(a.Kind, s)
	case api.ActStat:
		if kind == 0 {
			return api.Answer{E: api.ErrNone}
		}
		return api.Answer{Ino: ino, Node: api.Node{Kind: kind, Links: p.links(ino), Size: len(have)}}
	}
	wanted := uint8(api.File)
	if a.Kind == api.ActRmdir || a.Kind == api.ActList {
		wanted = api.Dir
	}
	switch {
	case kind == 0:
		return api.Answer{E: api.ErrNone}
	case kind != wanted:
		return api.Answer{E: api.ErrKind}
	case a.Kind == api.ActList:
		return api.Answer{Names: p.names(s)}
	case a.Kind == api.ActUnlink:
		p.lose(s)
		return api.Answer{}
	case a.Kind == api.ActRmdir && s == "":
		return api.Answer{E: api.ErrArg}
	case a.Kind == api.ActRmdir && len(p.names(s)) > 0:
		return api.Answer{E: api.ErrBusy}
	case a.Kind == api.ActRmdir:
		p.lose(s)
		return api.Answer{}
	case a.At < 0 || a.N < 0:
		return api.Answer{E: api.ErrArg}
	}
	return p.bytesOf(a, ino)
}

func (p *plain) add(k api.ActKind, s string) api.Answer {
	switch {
	case p.at[s] != 0:
		return api.Answer{E: api.ErrTwice}
	case len(p.kind) == 48:
		return api.Answer{E: api.ErrLimit}
	}
	ino := 1
	for p.kind[ino] != 0 {
		ino++
	}
	p.at[s], p.kind[ino] = ino, api.Dir
	if k == api.ActCreate {
		p.kind[ino] = api.File
	}
	return api.Answer{Ino: ino}
}

// bytesOf does what goes to a file's bytes, one byte at a time.
func (p *plain) bytesOf(a api.Act, ino int) api.Answer {
	have := p.bytes[ino]
	switch a.Kind {
	case api.ActRead:
		var out []byte
		for i := a.At; i < len(have) && len(out) < a.N; i++ {
			out = append(out, have[i])
		}
		return api.Answer{Bytes: out}
	case api.ActCut:
		if a.N > 8*p.piece {
			return api.Answer{E: api.ErrLimit}
		}
		for len(have) < a.N {
			have = append(have, 0)
		}
		p.bytes[ino] = have[:a.N]
		return api.Answer{}
	}
	if len(a.Bytes) > 0 && (a.At > 8*p.piece || a.At+len(a.Bytes) > 8*p.piece) {
		return api.Answer{E: api.ErrLimit}
	}
	for i, b := range a.Bytes {
		for len(have) <= a.At+i {
			have = append(have, 0)
		}
		have[a.At+i] = b
	}
	p.bytes[ino] = have
	return api.Answer{N: len(a.Bytes)}
}

// plainRight reads the words on a tree, one by one: it goes all ways from the
// root, as far as they may go, and counts how often it comes to each node.
func plainRight(t api.Tree) bool {
	if t.Piece < 1 || t.Piece > 255 || len(t.Nodes) > 48 {
		return false
	}
	nodes, last := map[int]api.Inode{}, 0
	for _, n := range t.Nodes {
		if n.Ino <= last || !plainNode(t.Piece, n) {
			return false
		}
		nodes[n.Ino], last = n, n.Ino
	}
	came, now := map[int]int{}, []int{1}
	for depth := 0; len(now) > 0; depth++ {
		if depth > 6 {
			return false
		}
		var next []int
		for _, ino := range now {
			came[ino]++
			for _, x := range nodes[ino].Names {
				next = append(next, x.Ino)
			}
		}
		now = next
	}
	for ino := range came {
		if nodes[ino].Ino == 0 {
			return false
		}
	}
	for ino, n := range nodes {
		if came[ino] != n.Links {
			return false
		}
	}
	return nodes[1].Kind == api.Dir
}

// plainNode: what is said of a node without a look at the others.
func plainNode(piece int, n api.Inode) bool {
	if n.Kind == api.File {
		return n.Links >= 1 && n.Links <= 6 && len(n.Names) == 0 && len(n.Bytes) <= 8*piece
	}
	var l []string
	for _, x := range n.Names {
		if s, e := plainPath("/" + x.Name); e != api.OK || strings.Count(s, "/") != 1 {
			return false
		}
		l = append(l, x.Name)
	}
	sorted := slices.Compact(slices.Sorted(slices.Values(l)))
	return n.Kind == api.Dir && n.Links == 1 && len(n.Bytes) == 0 && slices.Equal(l, sorted)
}

// text tells a tree so that two trees of one text are the same.
func text(t api.Tree) string {
	l := []string{fmt.Sprint("piece ", t.Piece)}
	for _, n := range t.Nodes {
		kind := map[uint8]string{1: "dir", 2: "file"}[n.Kind]
		if kind == "" {
			kind = fmt.Sprint("kind ", n.Kind)
		}
		s := fmt.Sprintf("%d %s %d", n.Ino, kind, n.Links)
		for _, x := range n.Names {
			s += fmt.Sprintf(" %s=%d", x.Name, x.Ino)
		}
		if len(n.Bytes) > 0 {
			s += fmt.Sprintf(" %q", n.Bytes)
		}
		l = append(l, s)
	}
	return strings.Join(l, "; ")
}

// sameAnswer: a list that is nil and one without elements are the same.
func sameAnswer(a, b api.Answer) bool {
	return a.E == b.E && a.Ino == b.Ino && a.N == b.N && a.Node == b.Node &&
		bytes.Equal(a.Bytes, b.Bytes) && slices.Equal(a.Names, b.Names)
}
