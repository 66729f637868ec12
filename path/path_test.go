package path_test

import (
	"fmt"
	"math/rand"
	"slices"
	"strings"
	"testing"

	"carrack/api"
	"carrack/path"
)

// goodNames are of each length, have each byte that a name may have, and points
// wherever they may stand.
var goodNames = []string{
	"a", "z", "0", "9", "-", "ab", "b.c", "abcdefghijkl", "mnopqrstuvwx", "yz0123456789",
	"...", ".a", "a.", "..a", "a..", ".-", "-.", "....", "............", "------------",
}

// badNames are not even part of a path: none of them has a stroke.
var badNames = []string{
	"", ".", "..", "abcdefghijklm", ".............", "A", "Z", "aA", "`", "{", "@", "[", ":", ",", "_",
	" ", " a", "a ", "a b", "\x00", "a\x00", "\x00a", "\x7f", "\x80", "\xff", "a\xff", "ä", "aé", "\n", "a\n", "\\", "*",
}

// many answers n names, no two of which are the same.
func many(n int) []string {
	l := make([]string, n)
	for i := range l {
		l[i] = fmt.Sprint("n", i)
	}
	return l
}

func wantName(t *testing.T, s string, ok bool) {
	t.Helper()
	if got := path.Name(s); got != ok {
		t.Errorf("Name(%q) = %v; want %v", s, got, ok)
	}
}

func wantParse(t *testing.T, s string, l []string, e api.Errno) {
	t.Helper()
	if gotL, gotE := path.Parse(s); !slices.Equal(gotL, l) || gotE != e {
		t.Errorf("Parse(%q) = %q, %d; want %q, %d", s, gotL, gotE, l, e)
	}
}

func wantJoin(t *testing.T, l []string, s string, e api.Errno) {
	t.Helper()
	if gotS, gotE := path.Join(l); gotS != s || gotE != e {
		t.Errorf("Join(%q) = %q, %d; want %q, %d", l, gotS, gotE, s, e)
	}
}

func wantSplit(t *testing.T, s string, dir []string, name string, e api.Errno) {
	t.Helper()
	gotDir, gotName, gotE := path.Split(s)
	if !slices.Equal(gotDir, dir) || gotName != name || gotE != e {
		t.Errorf("Split(%q) = %q, %q, %d; want %q, %q, %d", s, gotDir, gotName, gotE, dir, name, e)
	}
}

func wantUnder(t *testing.T, a, b string, ok bool) {
	t.Helper()
	if got := path.Under(a, b); got != ok {
		t.Errorf("Under(%q, %q) = %v; want %v", a, b, got, ok)
	}
}

// wantNoPath: Parse and Split answer the error, and nothing is under it, nor is
// it under anything.
func wantNoPath(t *testing.T, s string, e api.Errno) {
	t.Helper()
	wantParse(t, s, nil, e)
	wantSplit(t, s, nil, "", e)
	for _, other := range []string{"/", "/a", "/a/b", "/a/b/c/d/e/f", s, ""} {
		wantUnder(t, s, other, false)
		wantUnder(t, other, s, false)
	}
}

// The chapter's examples, and the fourth of the whole.

func TestExamples(t *testing.T) {
	wantParse(t, "/a/b.c", []string{"a", "b.c"}, api.OK)
	wantParse(t, "/", nil, api.OK)
	wantParse(t, "a", nil, api.ErrArg)
	wantParse(t, "//", nil, api.ErrArg)
	wantParse(t, "/a/", nil, api.ErrArg)
	wantParse(t, "/..", nil, api.ErrArg)
	wantSplit(t, "/a/b", []string{"a"}, "b", api.OK)
	wantUnder(t, "/a", "/", true)
	wantUnder(t, "/a/b", "/a", true)
	wantUnder(t, "/ab", "/a", false)
}

// P5.1: Name.

func TestNameGoodAndBad(t *testing.T) {
	for _, s := range goodNames {
		wantName(t, s, true)
	}
	for _, s := range badNames {
		wantName(t, s, false)
	}
	for _, s := range []string{"/", "/a", "a/", "a/b"} {
		wantName(t, s, false)
	}
}

// inNames are all the bytes that a name may have.
const inNames = "abcdefghijklmnopqrstuvwxyz0123456789.-"

func TestNameEachByte(t *testing.T) {
	for b := range 256 {
		s := string([]byte{byte(b)})
		ok := strings.Contains(inNames, s)
		wantName(t, s, ok && s != ".")
		wantName(t, s+"a", ok)
		wantName(t, "a"+s, ok)
		wantName(t, "a"+s+"a", ok)
		wantName(t, "abcdefghijk"+s, ok)
		wantName(t, s+"bcdefghijkl", ok)
	}
}

func TestNameEachLength(t *testing.T) {
	for n := range 300 {
		ok := n >= 1 && n <= 12
		wantName(t, strings.Repeat("a", n), ok)
		wantName(t, strings.Repeat("-", n), ok)
		wantName(t, strings.Repeat(".", n), ok && n > 2)
	}
	wantName(t, strings.Repeat("a", 1<<16+1), false)
	wantName(t, strings.Repeat("ä", 6), false)
}

// P5.1: Parse.

func TestParseEachCount(t *testing.T) {
	for n := range 7 {
		l := many(n)
		wantParse(t, "/"+strings.Join(l, "/"), l, api.OK)
	}
	for _, n := range []int{7, 8, 12, 255, 256, 257, 1<<16 + 1} {
		wantNoPath(t, "/"+strings.Join(many(n), "/"), api.ErrLimit)
	}
}

func TestParseGoodNames(t *testing.T) {
	for _, a := range goodNames {
		wantParse(t, "/"+a, []string{a}, api.OK)
		for _, b := range goodNames {
			wantParse(t, "/"+a+"/"+b, []string{a, b}, api.OK)
		}
	}
	wantParse(t, "/a/a/a/a/a/a", []string{"a", "a", "a", "a", "a", "a"}, api.OK)
	longest := "abcdefghijkl"
	wantParse(t, strings.Repeat("/"+longest, 6), slices.Repeat([]string{longest}, 6), api.OK)
}

func TestParseBadNameAnywhere(t *testing.T) {
	for _, bad := range badNames {
		for n := 1; n <= 6; n++ {
			for at := range n {
				l := many(n)
				l[at] = bad
				s := "/" + strings.Join(l, "/")
				if s == "/" {
					continue
				}
				wantNoPath(t, s, api.ErrArg)
			}
		}
	}
}

func TestParseStrokes(t *testing.T) {
	for _, s := range []string{
		"", "//", "///", "///////", "////////", "/a/", "/a//", "//a", "/a//b", "/a/b/", "/a/b//c", "//a/b",
		"a", "a/", "a/b", "a//b", "./a", "../a", " /a", "\x00/a", "\\a", "/.", "/..", "/./a", "/a/.", "/a/..", "/../a",
		"a/b/c/d/e/f", "/a/b/c/d/e/f/", "//a/b/c/d/e/f", "/a\\b", "/a b", "/ ", "/\x00", " /", "/ /",
	} {
		wantNoPath(t, s, api.ErrArg)
	}
}

// ErrArg comes ahead of ErrLimit, wherever what is no name stands.
func TestParseErrorOrder(t *testing.T) {
	for _, bad := range badNames {
		for _, n := range []int{7, 8, 40} {
			for at := range n {
				l := many(n)
				l[at] = bad
				wantNoPath(t, "/"+strings.Join(l, "/"), api.ErrArg)
			}
		}
	}
	wantNoPath(t, strings.Join(many(7), "/"), api.ErrArg)
	wantNoPath(t, "a"+strings.Repeat("/a", 6), api.ErrArg)
	wantNoPath(t, "a"+strings.Repeat("/a", 7), api.ErrArg)
}

// P5.1: Join.

func TestJoinEachCount(t *testing.T) {
	wantJoin(t, nil, "/", api.OK)
	wantJoin(t, []string{}, "/", api.OK)
	wantJoin(t, make([]string, 0, 4), "/", api.OK)
	wantJoin(t, []string{"a"}, "/a", api.OK)
	wantJoin(t, []string{"a", "b.c"}, "/a/b.c", api.OK)
	for n := range 7 {
		l := many(n)
		wantJoin(t, l, "/"+strings.Join(l, "/"), api.OK)
	}
	for _, n := range []int{7, 8, 256, 257, 1<<16 + 1} {
		wantJoin(t, many(n), "", api.ErrLimit)
	}
}

func TestJoinGoodNames(t *testing.T) {
	for _, a := range goodNames {
		wantJoin(t, []string{a}, "/"+a, api.OK)
		for _, b := range goodNames {
			wantJoin(t, []string{a, b}, "/"+a+"/"+b, api.OK)
		}
	}
}

func TestJoinBadNameAnywhere(t *testing.T) {
	for _, bad := range append([]string{"/", "/a", "a/", "a/b"}, badNames...) {
		for _, n := range []int{1, 2, 6, 7, 8, 40} {
			for at := range n {
				l := many(n)
				l[at] = bad
				wantJoin(t, l, "", api.ErrArg)
			}
		}
	}
	wantJoin(t, make([]string, 7), "", api.ErrArg)
}

// P5.2: Split.

func TestSplit(t *testing.T) {
	wantSplit(t, "/", nil, "", api.ErrArg)
	wantSplit(t, "/a", nil, "a", api.OK)
	wantSplit(t, "/...", nil, "...", api.OK)
	wantSplit(t, "/a/a", []string{"a"}, "a", api.OK)
	wantSplit(t, "/c/b/a", []string{"c", "b"}, "a", api.OK)
	for n := 1; n <= 6; n++ {
		l := many(n)
		wantSplit(t, "/"+strings.Join(l, "/"), l[:n-1], l[n-1], api.OK)
	}
	wantSplit(t, "/a/b/c/d/e/f/g", nil, "", api.ErrLimit)
	wantSplit(t, "/a/b/c/d/e/f/g/", nil, "", api.ErrArg)
	wantSplit(t, "", nil, "", api.ErrArg)
}

// P5.2: Under.

func TestUnder(t *testing.T) {
	for _, x := range []struct {
		a, b string
		ok   bool
	}{
		{"/", "/", false},
		{"/a", "/a", false},
		{"/a/b", "/a/b", false},
		{"/a/b/c/d/e/f", "/a/b/c/d/e/f", false},
		{"/", "/a", false},
		{"/a", "/a/b", false},
		{"/a/b/c/d/e", "/a/b/c/d/e/f", false},
		{"/a/b", "/", true},
		{"/a/b/c", "/a", true},
		{"/a/b/c", "/a/b", true},
		{"/a/b/c/d/e/f", "/", true},
		{"/a/b/c/d/e/f", "/a", true},
		{"/a/b/c/d/e/f", "/a/b/c/d/e", true},
		{"/a/b/c/d/e/f", "/a/b/c/d/f", false},
		{"/a/b/c/d/e/f", "/b/b/c/d/e", false},
		{"/a/b/c", "/b", false},
		{"/a/b/c", "/b/c", false},
		{"/a/b/c", "/c", false},
		{"/a/b/c", "/a/c", false},
		{"/b/a", "/a", false},
		{"/ab/c", "/a", false},
		{"/a.", "/a", false},
		{"/a-/b", "/a", false},
		{"/a/bc", "/a/b", false},
		{"/a/bc/d", "/a/b", false},
		{"/a/b", "/ab", false},
		{"/a/b", "/aa", false},
		{"/a/a", "/a", true},
	} {
		wantUnder(t, x.a, x.b, x.ok)
	}
}

// What is too long, or has a bad name behind, is no path, and neither is what
// begins like one.
func TestUnderNoPath(t *testing.T) {
	for _, x := range [][2]string{
		{"", ""}, {"/", ""}, {"/a", ""}, {"", "/"}, {"a", "/"}, {"/a/", "/a"}, {"/a//", "/a"}, {"/a//b", "/a"},
		{"/a/b", "/a/"}, {"/a/b", "a"}, {"a/b", "a"}, {"a/b", "/a"}, {"//a", "/"}, {"/a", "//"}, {"//", "/"},
		{"/a/b/c/d/e/f/g", "/"}, {"/a/b/c/d/e/f/g", "/a"}, {"/a/b/c/d/e/f/g", "/a/b/c/d/e/f"},
		{"/a/b/c/d/e/f/g/h", "/a/b/c/d/e/f/g"}, {"/a/B", "/a"}, {"/A/b", "/A"}, {"/A/b", "/"}, {"/a/..", "/a"}, {"/a/.", "/a"},
		{"/../a", "/.."}, {"/abcdefghijklm", "/"}, {"/a/abcdefghijklm", "/a"}, {"/a/b", "/a/b/c/d/e/f/g"},
	} {
		wantUnder(t, x[0], x[1], false)
	}
}

// P5.3: what follows.

// pathsOf answers all paths of at most depth names out of the list.
func pathsOf(depth int, names ...string) [][]string {
	all := [][]string{nil}
	row := all
	for range depth {
		var next [][]string
		for _, l := range row {
			for _, name := range names {
				next = append(next, append(slices.Clone(l), name))
			}
		}
		all, row = append(all, next...), next
	}
	return all
}

func TestNamesComeBack(t *testing.T) {
	all := append(pathsOf(6, "a", "b.c"), pathsOf(2, goodNames...)...)
	for _, l := range all {
		s, e := path.Join(l)
		if e != api.OK {
			t.Fatalf("Join(%q): %d", l, e)
		}
		wantParse(t, s, l, api.OK)
		back, e := path.Parse(s)
		if e != api.OK {
			t.Fatalf("Parse(%q): %d", s, e)
		}
		wantJoin(t, back, s, api.OK)
	}
}

func TestSplitComesBack(t *testing.T) {
	for _, l := range pathsOf(6, "a", "b")[1:] {
		s, _ := path.Join(l)
		dir, name, e := path.Split(s)
		if e != api.OK {
			t.Fatalf("Split(%q): %d", s, e)
		}
		above, e := path.Join(dir)
		if e != api.OK {
			t.Fatalf("Join(%q): %d", dir, e)
		}
		wantUnder(t, s, above, true)
		wantUnder(t, above, s, false)
		wantJoin(t, append(dir, name), s, api.OK)
	}
}

func TestUnderGoesOn(t *testing.T) {
	var all []string
	for _, l := range pathsOf(3, "a", "ab", "b") {
		s, _ := path.Join(l)
		all = append(all, s)
	}
	found := 0
	for _, a := range all {
		for _, b := range all {
			if !path.Under(a, b) {
				continue
			}
			for _, c := range all {
				if path.Under(b, c) {
					wantUnder(t, a, c, true)
					found++
				}
			}
		}
	}
	if found == 0 {
		t.Error("nothing is under one that is under a third")
	}
}

// The rules.

// wantOwn: what is done to the list, and to the room behind it, doesn't change
// what the call answers next.
func wantOwn(t *testing.T, what string, want []string, call func() []string) {
	t.Helper()
	got := call()
	if !slices.Equal(got, want) {
		t.Errorf("%s = %q; want %q", what, got, want)
	}
	other := call()
	room := got[:cap(got)]
	for i := range room {
		room[i] = "x"
	}
	if !slices.Equal(other, want) {
		t.Errorf("%s: two answers share memory", what)
	}
	if again := call(); !slices.Equal(again, want) {
		t.Errorf("%s = %q, once the first answer was changed; want %q", what, again, want)
	}
}

func TestAnswersAreNewMemory(t *testing.T) {
	for n := range 7 {
		l := many(n)
		s := "/" + strings.Join(l, "/")
		wantOwn(t, "Parse("+s+")", l, func() []string { got, _ := path.Parse(s); return got })
		if n == 0 {
			continue
		}
		wantOwn(t, "Split("+s+")", l[:n-1], func() []string { got, _, _ := path.Split(s); return got })
	}
}

// The last name is not in the room behind the others.
func TestSplitHasNoRoomBehind(t *testing.T) {
	for n := 1; n <= 6; n++ {
		l := many(n)
		dir, name, _ := path.Split("/" + strings.Join(l, "/"))
		for _, left := range dir[len(dir):cap(dir)] {
			if left != "" {
				t.Errorf("behind the names %q stands %q", dir, left)
			}
		}
		if _ = append(dir, "x"); name != l[n-1] {
			t.Errorf("the name is %q; want %q", name, l[n-1])
		}
	}
}

func TestJoinLeavesListAsItIs(t *testing.T) {
	for _, bad := range []string{"z", "Z"} {
		for n := range 9 {
			room := append(many(n), bad, "y", "")
			kept := slices.Clone(room)
			path.Join(room[:n])
			path.Join(room[:n+1])
			if !slices.Equal(room, kept) {
				t.Errorf("Join of %d names: %q was %q", n, room, kept)
			}
		}
	}
}

func TestSameAnswersAgain(t *testing.T) {
	wantNoPath(t, "/a/", api.ErrArg)
	wantParse(t, "/a", []string{"a"}, api.OK)
	wantNoPath(t, "/a/b/c/d/e/f/g", api.ErrLimit)
	wantParse(t, "/a", []string{"a"}, api.OK)
	wantJoin(t, []string{""}, "", api.ErrArg)
	wantJoin(t, nil, "/", api.OK)
}

// A plain reading of the document, byte by byte, is held against the package.

func plainName(s string) bool {
	for _, b := range []byte(s) {
		if strings.IndexByte(inNames, b) < 0 {
			return false
		}
	}
	return len(s) > 0 && len(s) < 13 && s != "." && s != ".."
}

func plainParse(s string) ([]string, api.Errno) {
	if s == "/" {
		return nil, api.OK
	}
	parts := strings.Split(s, "/")
	if parts[0] != "" || len(parts) == 1 {
		return nil, api.ErrArg
	}
	for _, part := range parts[1:] {
		if !plainName(part) {
			return nil, api.ErrArg
		}
	}
	if len(parts) > 7 {
		return nil, api.ErrLimit
	}
	return parts[1:], api.OK
}

func plainUnder(a, b string) bool {
	_, e := plainParse(a)
	_, f := plainParse(b)
	if e != api.OK || f != api.OK || a == "/" {
		return false
	}
	return b == "/" || strings.HasPrefix(a, b+"/")
}

func wantPlain(t *testing.T, a, b string) {
	t.Helper()
	wantName(t, a, plainName(a))
	l, e := plainParse(a)
	wantParse(t, a, l, e)
	switch {
	case e != api.OK:
		wantSplit(t, a, nil, "", e)
	case len(l) == 0:
		wantSplit(t, a, nil, "", api.ErrArg)
	default:
		wantSplit(t, a, l[:len(l)-1], l[len(l)-1], api.OK)
	}
	wantUnder(t, a, b, plainUnder(a, b))
	wantUnder(t, b, a, plainUnder(b, a))
}

// All short texts of some bytes are told, and what they are under.
func TestPlainShortTexts(t *testing.T) {
	texts := []string{""}
	for from := 0; len(texts[from]) < 5; from++ {
		for _, b := range []byte("/ab.A") {
			texts = append(texts, texts[from]+string(b))
		}
	}
	r := rand.New(rand.NewSource(5))
	for _, s := range texts {
		wantPlain(t, s, texts[r.Intn(len(texts))])
		wantPlain(t, s, s[:r.Intn(len(s)+1)])
	}
}

func randomText(r *rand.Rand) string {
	var s strings.Builder
	for range r.Intn(10) {
		s.WriteByte('/')
		switch r.Intn(12) {
		case 0:
			s.WriteString(badNames[r.Intn(len(badNames))])
		case 1:
			s.WriteString(goodNames[r.Intn(len(goodNames))])
		default:
			s.WriteString("ab"[:1+r.Intn(2)])
		}
	}
	return s.String()
}

func TestPlainRandomTexts(t *testing.T) {
	r := rand.New(rand.NewSource(6))
	for range 20000 {
		a := randomText(r)
		b := randomText(r)
		if r.Intn(2) == 0 {
			b = a[:r.Intn(len(a)+1)]
		}
		wantPlain(t, a, b)
	}
}
