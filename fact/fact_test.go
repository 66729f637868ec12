package fact_test

import (
	"bytes"
	"fmt"
	"math"
	"math/rand"
	"slices"
	"strings"
	"testing"

	"carrack/api"
	"carrack/ends"
	"carrack/fact"
)

func node(ino int) api.Key {
	return api.Key{Ino: ino, What: api.OfNode}
}

func entry(ino int, name string) api.Key {
	return api.Key{Ino: ino, What: api.OfEntry, Name: name}
}

func piece(ino, chunk int) api.Key {
	return api.Key{Ino: ino, What: api.OfPiece, Chunk: chunk}
}

// goodNames are names as layer 5 has them, badNames ones that are none.
var (
	goodNames = []string{"a", "z", "0", "9", "-", "ab", "b.c", "...", ".a", "a.", "..a", "abcdefghijkl", "............"}
	badNames  = []string{"", ".", "..", "A", "aB", "/", "/a", "a/", "a/b", " ", "a b", "_", "\x00", "a\x00", "\xff", "ä", "abcdefghijklm", strings.Repeat("a", 255), strings.Repeat("a", 256)}
)

var (
	goodInos = []int{1, 2, 5, 255, 256, 257, 65534, 65535}
	badInos  = []int{0, -1, -65535, 65536, 65537, 1 << 17, math.MaxInt, math.MinInt, math.MinInt + 1}
	badWhats = []uint8{0, 4, 5, 127, 128, 254, 255}
)

// goodKeys are in order, no two the same.
func goodKeys() []api.Key {
	names := slices.Clone(goodNames)
	slices.Sort(names)
	var l []api.Key
	for _, ino := range goodInos {
		l = append(l, node(ino))
		for _, name := range names {
			l = append(l, entry(ino, name))
		}
		for chunk := range 8 {
			l = append(l, piece(ino, chunk))
		}
	}
	return l
}

// badKeys are wrong in just one field each, but for the last ones.
func badKeys() []api.Key {
	var l []api.Key
	for _, ino := range badInos {
		l = append(l, node(ino), entry(ino, "a"), piece(ino, 0))
	}
	for _, what := range badWhats {
		l = append(l, api.Key{Ino: 1, What: what}, api.Key{Ino: 1, What: what, Name: "a"}, api.Key{Ino: 1, What: what, Chunk: 1})
	}
	for _, name := range badNames {
		l = append(l, entry(1, name))
	}
	for _, name := range append([]string{"a", "abc", "."}, badNames[1:]...) {
		l = append(l, api.Key{Ino: 1, What: api.OfNode, Name: name}, api.Key{Ino: 1, What: api.OfPiece, Name: name})
	}
	for _, chunk := range []int{-1, 1, 7, 8, 256, math.MaxInt, math.MinInt} {
		l = append(l, api.Key{Ino: 1, What: api.OfNode, Chunk: chunk}, api.Key{Ino: 1, What: api.OfEntry, Name: "a", Chunk: chunk})
	}
	for _, chunk := range []int{-1, 8, 9, 255, 256, 257, math.MaxInt, math.MinInt} {
		l = append(l, piece(1, chunk))
	}
	return append(l, api.Key{}, api.Key{Ino: -1, What: 9, Name: "/", Chunk: -1}, api.Key{Ino: 65536, What: 3, Name: "a", Chunk: 8})
}

// plainKey are the bytes of a key that may be, laid by hand.
func plainKey(k api.Key) []byte {
	b := []byte{byte(k.Ino % 256), byte(k.Ino / 256), k.What}
	switch k.What {
	case 2:
		b = append(b, byte(len(k.Name)))
		b = append(b, k.Name...)
	case 3:
		b = append(b, byte(k.Chunk))
	}
	return b
}

func wantPutKey(t *testing.T, k api.Key, want []byte, e api.Errno) {
	t.Helper()
	if got, gotE := fact.PutKey(k); !bytes.Equal(got, want) || gotE != e {
		t.Errorf("PutKey(%#v) = %x, %d; want %x, %d", k, got, gotE, want, e)
	}
}

// wantGetKey: the key is told, and left is what the reader has behind it.
func wantGetKey(t *testing.T, b []byte, k api.Key, e api.Errno, left int) {
	t.Helper()
	r := ends.New(b)
	if got, gotE := fact.GetKey(r); got != k || gotE != e || r.Left() != left {
		t.Errorf("GetKey(%x) = %#v, %d, left %d; want %#v, %d, left %d", b, got, gotE, r.Left(), k, e, left)
	}
}

func wantBefore(t *testing.T, a, b api.Key, ok bool) {
	t.Helper()
	if got := fact.Before(a, b); got != ok {
		t.Errorf("Before(%#v, %#v) = %v; want %v", a, b, got, ok)
	}
}

// The chapter's examples.

func TestExamples(t *testing.T) {
	wantPutKey(t, entry(5, "ab"), []byte{5, 0, 2, 2, 0x61, 0x62}, api.OK)
	wantPutKey(t, piece(5, 8), nil, api.ErrArg)
	wantBefore(t, node(5), entry(5, "a"), true)
	wantBefore(t, entry(5, "a"), entry(5, "ab"), true)
	wantBefore(t, node(6), piece(5, 0), false)
}

// P6.1: MayKey.

func TestMayKey(t *testing.T) {
	for _, k := range goodKeys() {
		if !fact.MayKey(k) {
			t.Errorf("MayKey(%#v) = false", k)
		}
	}
	for _, k := range badKeys() {
		if fact.MayKey(k) {
			t.Errorf("MayKey(%#v) = true", k)
		}
	}
}

func TestMayKeyEachWhat(t *testing.T) {
	for what := range 256 {
		for _, x := range []struct {
			name  string
			chunk int
			of    int
		}{{"", 0, 1}, {"a", 0, 2}, {"", 7, 3}, {"a", 7, -1}} {
			ok := what == x.of || what == 3 && x.of == 1
			k := api.Key{Ino: 7, What: uint8(what), Name: x.name, Chunk: x.chunk}
			if fact.MayKey(k) != ok {
				t.Errorf("MayKey(%#v) = %v", k, !ok)
			}
		}
	}
}

// P6.1: Before.

// All keys of the list stand in order, and each is told against each other one.
func TestBeforeEachTwo(t *testing.T) {
	l := goodKeys()
	for i, a := range l {
		for j, b := range l {
			wantBefore(t, a, b, i < j)
		}
	}
}

// The fields count in this order, whatever those behind say; a key that differs
// in one field alone is told by it.
func TestBeforeFields(t *testing.T) {
	for _, x := range []struct{ a, b api.Key }{
		{node(5), node(6)},
		{node(255), node(256)},
		{node(2), node(256)},
		{node(1), node(65535)},
		{piece(5, 7), node(6)},
		{entry(5, "z"), entry(6, "a")},
		{piece(5, 7), piece(6, 0)},
		{node(5), piece(5, 0)},
		{entry(5, "z"), piece(5, 0)},
		{entry(5, "a"), entry(5, "b")},
		{entry(5, "a"), entry(5, "aa")},
		{entry(5, "abc"), entry(5, "abcd")},
		{entry(5, "az"), entry(5, "b")},
		{entry(5, "zz"), entry(5, "zza")},
		{entry(5, "-"), entry(5, ".a")},
		{entry(5, "9"), entry(5, "a")},
		{entry(5, "..."), entry(5, "0")},
		{piece(5, 0), piece(5, 1)},
		{piece(5, 6), piece(5, 7)},
	} {
		wantBefore(t, x.a, x.b, true)
		wantBefore(t, x.b, x.a, false)
		wantBefore(t, x.a, x.a, false)
		wantBefore(t, x.b, x.b, false)
	}
}

// Also keys that may not be stand in order: by the bytes of the name, as numbers
// without a turn round.
func TestBeforeBadKeys(t *testing.T) {
	for _, x := range []struct{ a, b api.Key }{
		{node(-1), node(0)},
		{node(math.MinInt), node(math.MaxInt)},
		{api.Key{Ino: 1}, node(1)},
		{piece(1, 0), api.Key{Ino: 1, What: 4}},
		{api.Key{Ino: 1, What: 127}, api.Key{Ino: 1, What: 128}},
		{entry(1, ""), entry(1, "\x00")},
		{entry(1, "z"), entry(1, "\xff")},
		{entry(1, "\u00e4"), entry(1, "\xff")},
		{entry(1, "Z"), entry(1, "a")},
		{piece(1, math.MinInt), piece(1, math.MaxInt)},
		{piece(1, -1), piece(1, 0)},
		{piece(1, 7), piece(1, 8)},
		{api.Key{Ino: 1, What: 2, Name: "a", Chunk: 9}, api.Key{Ino: 1, What: 2, Name: "b"}},
	} {
		wantBefore(t, x.a, x.b, true)
		wantBefore(t, x.b, x.a, false)
	}
	for _, k := range badKeys() {
		wantBefore(t, k, k, false)
	}
}

// P6.1: PutKey.

func TestPutKey(t *testing.T) {
	wantPutKey(t, node(1), []byte{1, 0, 1}, api.OK)
	wantPutKey(t, node(258), []byte{2, 1, 1}, api.OK)
	wantPutKey(t, node(65535), []byte{255, 255, 1}, api.OK)
	wantPutKey(t, piece(513, 0), []byte{1, 2, 3, 0}, api.OK)
	wantPutKey(t, piece(5, 7), []byte{5, 0, 3, 7}, api.OK)
	wantPutKey(t, entry(65535, "abcdefghijkl"), append([]byte{255, 255, 2, 12}, "abcdefghijkl"...), api.OK)
	for _, k := range goodKeys() {
		wantPutKey(t, k, plainKey(k), api.OK)
	}
	for _, k := range badKeys() {
		wantPutKey(t, k, nil, api.ErrArg)
	}
}

// P6.1: GetKey.

func TestGetKey(t *testing.T) {
	for _, k := range goodKeys() {
		for _, behind := range []string{"", "\x00", "\xff", "\x01\x00\x01", "abcdef"} {
			wantGetKey(t, append(plainKey(k), behind...), k, api.OK, len(behind))
		}
	}
}

// Keys behind one another come off one by one.
func TestGetKeyRow(t *testing.T) {
	var all []byte
	for _, k := range goodKeys() {
		all = append(all, plainKey(k)...)
	}
	r := ends.New(all)
	for _, k := range goodKeys() {
		if got, e := fact.GetKey(r); got != k || e != api.OK {
			t.Fatalf("GetKey = %#v, %d; want %#v", got, e, k)
		}
	}
	if k, e := fact.GetKey(r); k != (api.Key{}) || e != api.ErrShort {
		t.Errorf("GetKey behind all = %#v, %d", k, e)
	}
}

// wantShort: GetKey answers ErrShort, and so it does of a reader that refused.
func wantShort(t *testing.T, b []byte) {
	t.Helper()
	r := ends.New(b)
	for range 2 {
		if k, e := fact.GetKey(r); k != (api.Key{}) || e != api.ErrShort || r.Left() != 0 {
			t.Errorf("GetKey(%x) = %#v, %d, left %d; want ErrShort", b, k, e, r.Left())
		}
	}
	if _, e := r.Take(1); e != api.ErrShort {
		t.Errorf("GetKey(%x): the reader goes on: %d", b, e)
	}
}

func TestGetKeyShort(t *testing.T) {
	for _, k := range goodKeys() {
		b := plainKey(k)
		for n := range b {
			wantShort(t, b[:n])
		}
	}
}

// ErrShort comes ahead of ErrForm: what may not be is told of whole keys alone.
func TestGetKeyShortFirst(t *testing.T) {
	for _, b := range [][]byte{
		{}, {0}, {0, 0}, {0, 0, 2}, {0, 0, 3}, {0, 0, 2, 1}, {1, 0, 2, 13}, {1, 0, 2, 13, 'A'}, {1, 0, 2, 2, '/'},
		append([]byte{1, 0, 2, 255}, strings.Repeat("a", 254)...), {0, 0, 2, 3, '.', '.'},
	} {
		wantShort(t, b)
	}
}

// The reader stands behind the key's bytes, or behind What, if that is none, and
// goes on.
func TestGetKeyForm(t *testing.T) {
	for _, x := range []struct {
		b    []byte
		left int
	}{
		{[]byte{0, 0, 1}, 0},
		{[]byte{0, 0, 1, 9}, 1},
		{[]byte{0, 0, 2, 1, 'a', 9}, 1},
		{[]byte{0, 0, 3, 0, 9}, 1},
		{[]byte{1, 0, 0}, 0},
		{[]byte{1, 0, 0, 9}, 1},
		{[]byte{1, 0, 4, 0, 0, 0}, 3},
		{[]byte{1, 0, 4}, 0},
		{[]byte{1, 0, 255, 1, 'a'}, 2},
		{[]byte{0, 0, 4, 1, 'a'}, 2},
		{[]byte{1, 0, 2, 0}, 0},
		{[]byte{1, 0, 2, 0, 7, 7}, 2},
		{[]byte{1, 0, 2, 1, '.', 9}, 1},
		{[]byte{1, 0, 2, 2, '.', '.', 9}, 1},
		{[]byte{1, 0, 2, 1, 'A', 9, 9, 9}, 3},
		{[]byte{1, 0, 2, 3, 'a', '/', 'b', 9}, 1},
		{[]byte{1, 0, 2, 1, 0xff}, 0},
		{append([]byte{1, 0, 2, 13}, strings.Repeat("a", 15)...), 2},
		{append([]byte{1, 0, 2, 255}, strings.Repeat("a", 256)...), 1},
		{[]byte{1, 0, 3, 8}, 0},
		{[]byte{1, 0, 3, 8, 9}, 1},
		{[]byte{1, 0, 3, 255, 9, 9}, 2},
	} {
		wantGetKey(t, x.b, api.Key{}, api.ErrForm, x.left)
	}
}

// Behind ErrForm the next key comes off as if nothing had been.
func TestGetKeyBehindForm(t *testing.T) {
	good := entry(258, "b.c")
	for _, bad := range [][]byte{{0, 0, 1}, {7, 0, 0}, {7, 0, 4}, {7, 0, 2, 2, '.', '.'}, {7, 0, 3, 8}, {0, 0, 3, 1}} {
		r := ends.New(append(slices.Clone(bad), plainKey(good)...))
		if k, e := fact.GetKey(r); k != (api.Key{}) || e != api.ErrForm {
			t.Errorf("GetKey(%x..) = %#v, %d", bad, k, e)
		}
		if k, e := fact.GetKey(r); k != good || e != api.OK || r.Left() != 0 {
			t.Errorf("GetKey behind %x = %#v, %d", bad, k, e)
		}
	}
}

func TestGetKeyNoReader(t *testing.T) {
	for _, r := range []*ends.Reader{nil, {}, new(ends.Reader)} {
		if k, e := fact.GetKey(r); k != (api.Key{}) || e != api.ErrNil {
			t.Errorf("GetKey of no reader = %#v, %d", k, e)
		}
	}
	for _, r := range []*ends.Reader{ends.New(nil), ends.New([]byte{})} {
		if k, e := fact.GetKey(r); k != (api.Key{}) || e != api.ErrShort {
			t.Errorf("GetKey of no bytes = %#v, %d", k, e)
		}
	}
}

// A reader of which something was taken off already is told from where it
// stands.
func TestGetKeyInTheMidst(t *testing.T) {
	r := ends.New([]byte{9, 5, 0, 3, 6, 1})
	r.Take(1)
	if k, e := fact.GetKey(r); k != piece(5, 6) || e != api.OK || r.Left() != 1 {
		t.Errorf("GetKey = %#v, %d, left %d", k, e, r.Left())
	}
	r.Row()
	if k, e := fact.GetKey(r); k != (api.Key{}) || e != api.ErrShort {
		t.Errorf("GetKey of a reader that refused = %#v, %d", k, e)
	}
}

// plainGetKey reads the document byte by byte: how many bytes are left, too.
func plainGetKey(b []byte) (k api.Key, e api.Errno, left int) {
	if len(b) < 3 {
		return k, api.ErrShort, 0
	}
	k = api.Key{Ino: int(b[0]) + 256*int(b[1]), What: b[2]}
	n := 3
	switch {
	case b[2] == 2 && (len(b) < 4 || len(b) < 4+int(b[3])), b[2] == 3 && len(b) < 4:
		return api.Key{}, api.ErrShort, 0
	case b[2] == 2:
		n = 4 + int(b[3])
		k.Name = string(b[4:n])
	case b[2] == 3:
		n = 4
		k.Chunk = int(b[3])
	}
	ok := k.Ino > 0 && b[2] > 0 && b[2] < 4 && k.Chunk < 8
	if b[2] == 2 {
		ok = ok && len(k.Name) > 0 && len(k.Name) < 13 && k.Name != "." && k.Name != ".."
		ok = ok && strings.Trim(k.Name, "abcdefghijklmnopqrstuvwxyz0123456789.-") == "" && !strings.Contains(k.Name, "/")
	}
	if !ok {
		return api.Key{}, api.ErrForm, len(b) - n
	}
	return k, api.OK, len(b) - n
}

func TestGetKeyAllShortBytes(t *testing.T) {
	all := [][]byte{nil}
	for from := 0; len(all[from]) < 7; from++ {
		for _, b := range []byte{0, 1, 2, 3, 4, '.', 'a'} {
			if len(all[from]) > 1 && len(all[from]) < 3 && b > 4 {
				continue
			}
			all = append(all, append(slices.Clone(all[from]), b))
		}
	}
	for _, b := range all {
		k, e, left := plainGetKey(b)
		wantGetKey(t, b, k, e, left)
	}
}

// P6.2: a node's value.

func TestNodeValue(t *testing.T) {
	for _, x := range []struct {
		n api.Node
		b []byte
	}{
		{api.Node{Kind: 1}, []byte{1, 0, 0, 0}},
		{api.Node{Kind: 2}, []byte{2, 0, 0, 0}},
		{api.Node{Kind: 1, Links: 1}, []byte{1, 1, 0, 0}},
		{api.Node{Kind: 2, Links: 6, Size: 258}, []byte{2, 6, 2, 1}},
		{api.Node{Kind: 2, Links: 255, Size: 65535}, []byte{2, 255, 255, 255}},
		{api.Node{Kind: 1, Links: 255, Size: 65535}, []byte{1, 255, 255, 255}},
		{api.Node{Kind: 2, Links: 7, Size: 255}, []byte{2, 7, 255, 0}},
		{api.Node{Kind: 2, Links: 1, Size: 256}, []byte{2, 1, 0, 1}},
	} {
		if b, e := fact.NodeValue(x.n); !bytes.Equal(b, x.b) || e != api.OK {
			t.Errorf("NodeValue(%#v) = %x, %d; want %x", x.n, b, e, x.b)
		}
		if n, e := fact.Node(x.b); n != x.n || e != api.OK {
			t.Errorf("Node(%x) = %#v, %d; want %#v", x.b, n, e, x.n)
		}
	}
}

func TestNodeValueRefused(t *testing.T) {
	var bad []api.Node
	for _, kind := range []uint8{0, 3, 4, 255} {
		bad = append(bad, api.Node{Kind: kind}, api.Node{Kind: kind, Links: 1, Size: 1})
	}
	for _, n := range []int{-1, 256, 257, 65536, math.MaxInt, math.MinInt} {
		bad = append(bad, api.Node{Kind: 1, Links: n}, api.Node{Kind: 2, Links: n, Size: 1})
	}
	for _, n := range []int{-1, -65536, 65536, 65537, 1 << 24, math.MaxInt, math.MinInt} {
		bad = append(bad, api.Node{Kind: 1, Links: 1, Size: n}, api.Node{Kind: 2, Size: n})
	}
	bad = append(bad, api.Node{}, api.Node{Kind: 3, Links: 256, Size: 65536})
	for _, n := range bad {
		if b, e := fact.NodeValue(n); len(b) != 0 || e != api.ErrArg {
			t.Errorf("NodeValue(%#v) = %x, %d; want ErrArg", n, b, e)
		}
	}
}

func TestNodeRefused(t *testing.T) {
	for _, b := range [][]byte{
		nil, {}, {1}, {1, 1}, {1, 1, 0}, {1, 1, 0, 0, 0}, {2, 1, 0, 0, 0, 0, 0, 0}, {0, 0, 0, 0}, {0, 1, 1, 1}, {3, 1, 0, 0}, {255, 255, 255, 255}, make([]byte, 256),
	} {
		if n, e := fact.Node(b); n != (api.Node{}) || e != api.ErrForm {
			t.Errorf("Node(%x) = %#v, %d; want ErrForm", b, n, e)
		}
	}
}

func TestNodeEachKind(t *testing.T) {
	for kind := range 256 {
		want, e := api.Node{Kind: uint8(kind), Links: 3, Size: 513}, api.OK
		if kind != 1 && kind != 2 {
			want, e = api.Node{}, api.ErrForm
		}
		if n, gotE := fact.Node([]byte{byte(kind), 3, 1, 2}); n != want || gotE != e {
			t.Errorf("Node of the kind %d = %#v, %d", kind, n, gotE)
		}
	}
}

// P6.2: a name's value.

func TestEntryValue(t *testing.T) {
	for ino := 1; ino <= 65535; ino++ {
		want := []byte{byte(ino % 256), byte(ino / 256)}
		b, e := fact.EntryValue(ino)
		if !bytes.Equal(b, want) || e != api.OK {
			t.Fatalf("EntryValue(%d) = %x, %d", ino, b, e)
		}
		if n, e := fact.Entry(want); n != ino || e != api.OK {
			t.Fatalf("Entry(%x) = %d, %d", want, n, e)
		}
	}
	for _, ino := range badInos {
		if b, e := fact.EntryValue(ino); len(b) != 0 || e != api.ErrArg {
			t.Errorf("EntryValue(%d) = %x, %d; want ErrArg", ino, b, e)
		}
	}
}

func TestEntryRefused(t *testing.T) {
	for _, b := range [][]byte{nil, {}, {1}, {0, 0}, {0, 0, 1}, {1, 0, 0}, {1, 0, 0, 0}, {1, 0, 0, 0, 0, 0, 0, 0}, make([]byte, 258)} {
		if n, e := fact.Entry(b); n != 0 || e != api.ErrForm {
			t.Errorf("Entry(%x) = %d, %d; want ErrForm", b, n, e)
		}
	}
}

// P6.3: Apply.

// put answers a fact, set a change that says it, gone one that takes it away.
func put(k api.Key, v string) api.Fact {
	return api.Fact{Key: k, Value: []byte(v)}
}

func set(k api.Key, v string) api.Change {
	return api.Change{Key: k, Value: []byte(v)}
}

func gone(k api.Key) api.Change {
	return api.Change{Key: k, Gone: true}
}

func facts(l ...api.Fact) []api.Fact { return l }

func changes(l ...api.Change) []api.Change { return l }

// text tells facts so that two lists of one text are the same.
func text(l []api.Fact) string {
	var s strings.Builder
	for _, f := range l {
		fmt.Fprintf(&s, "%d %d %q %d: %x; ", f.Key.Ino, f.Key.What, f.Key.Name, f.Key.Chunk, f.Value)
	}
	return s.String()
}

func wantApply(t *testing.T, l []api.Fact, c []api.Change, want []api.Fact) {
	t.Helper()
	if got := fact.Apply(l, c); text(got) != text(want) {
		t.Errorf("Apply(%s, %#v) = %s; want %s", text(l), c, text(got), text(want))
	}
}

func TestApplyNothing(t *testing.T) {
	for _, l := range [][]api.Fact{nil, {}, make([]api.Fact, 0, 3)} {
		for _, c := range [][]api.Change{nil, {}, make([]api.Change, 0, 3)} {
			wantApply(t, l, c, nil)
		}
		wantApply(t, l, changes(gone(node(1))), nil)
		wantApply(t, l, changes(set(node(1), "a")), facts(put(node(1), "a")))
		wantApply(t, l, changes(set(node(2), "b"), set(node(1), "a")), facts(put(node(1), "a"), put(node(2), "b")))
	}
	l := facts(put(node(1), "a"), put(entry(1, "x"), "b"), put(piece(2, 0), "c"))
	for _, c := range [][]api.Change{nil, {}, make([]api.Change, 0, 3)} {
		wantApply(t, l, c, l)
	}
}

// A change of each place of a list: ahead of, at, and behind each fact.
func TestApplyEachPlace(t *testing.T) {
	for n := range 9 {
		var l []api.Fact
		for i := range n {
			l = append(l, put(node(2*i+2), fmt.Sprint("v", i)))
		}
		for ino := 1; ino <= 2*n+1; ino++ {
			at := (ino - 1) / 2
			there := ino%2 == 0
			end := at
			if there {
				end++
			}
			with := slices.Concat(l[:at], facts(put(node(ino), "new")), l[end:])
			wantApply(t, l, changes(set(node(ino), "new")), with)
			wantApply(t, l, changes(gone(node(ino))), slices.Concat(l[:at], l[end:]))
		}
	}
}

func TestApplyMany(t *testing.T) {
	l := facts(put(node(1), "a"), put(entry(1, "x"), "b"), put(entry(1, "y"), "c"), put(node(2), "d"), put(piece(2, 0), "e"), put(piece(2, 7), "f"))
	wantApply(t, l,
		changes(gone(piece(2, 7)), set(node(1), "A"), gone(entry(1, "x")), set(entry(1, "xy"), "n"), set(piece(2, 3), "m"), gone(node(9))),
		facts(put(node(1), "A"), put(entry(1, "xy"), "n"), put(entry(1, "y"), "c"), put(node(2), "d"), put(piece(2, 0), "e"), put(piece(2, 3), "m")))
	var all []api.Change
	for _, f := range l {
		all = append(all, gone(f.Key))
	}
	wantApply(t, l, all, nil)
	slices.Reverse(all)
	wantApply(t, l, all, nil)
}

// Of changes of one key the last one holds, wherever the others stand.
func TestApplyOneKeyTwice(t *testing.T) {
	k, o := entry(3, "k"), node(3)
	for _, l := range [][]api.Fact{nil, facts(put(k, "old"))} {
		wantApply(t, l, changes(set(k, "1"), set(k, "2")), facts(put(k, "2")))
		wantApply(t, l, changes(set(k, "2"), set(k, "1")), facts(put(k, "1")))
		wantApply(t, l, changes(set(k, "1"), gone(k)), nil)
		wantApply(t, l, changes(gone(k), set(k, "1")), facts(put(k, "1")))
		wantApply(t, l, changes(gone(k), gone(k)), nil)
		wantApply(t, l, changes(set(k, "1"), gone(k), set(k, "2")), facts(put(k, "2")))
		wantApply(t, l, changes(gone(k), set(k, "1"), gone(k)), nil)
		wantApply(t, l, changes(set(k, "1"), set(o, "o"), set(k, "2")), facts(put(o, "o"), put(k, "2")))
		wantApply(t, l, changes(set(o, "o"), set(k, "1"), gone(o), gone(k)), nil)
	}
	var c []api.Change
	for i := range 100 {
		c = append(c, set(k, fmt.Sprint(i)), set(o, fmt.Sprint(-i)))
	}
	wantApply(t, nil, c, facts(put(o, "-99"), put(k, "99")))
	wantApply(t, nil, append(c, gone(o)), facts(put(k, "99")))
}

// A change that is Gone says no value, whatever it has; one that is not says its
// value, also one of no bytes, or that no fact of that key has.
func TestApplyAnyValue(t *testing.T) {
	l := facts(put(node(1), "a"), put(node(2), "b"))
	wantApply(t, l, changes(api.Change{Key: node(1), Value: []byte("x"), Gone: true}), facts(put(node(2), "b")))
	wantApply(t, l, changes(api.Change{Key: node(3), Value: []byte("x"), Gone: true}), l)
	wantApply(t, l, changes(set(node(1), "")), facts(put(node(1), ""), put(node(2), "b")))
	wantApply(t, l, changes(api.Change{Key: node(3)}), facts(put(node(1), "a"), put(node(2), "b"), put(node(3), "")))
	long := strings.Repeat("v", 300)
	wantApply(t, l, changes(set(node(2), long)), facts(put(node(1), "a"), put(node(2), long)))
}

// Keys that may not be stand in order, too, and are told from one another by
// each of their fields.
func TestApplyBadKeys(t *testing.T) {
	l := facts(put(api.Key{}, "a"), put(api.Key{Ino: 1, What: 1, Name: "x"}, "b"), put(api.Key{Ino: 1, What: 1, Name: "x", Chunk: 2}, "c"))
	wantApply(t, l, changes(gone(api.Key{Ino: 1, What: 1, Name: "x"})), facts(l[0], l[2]))
	wantApply(t, l, changes(set(api.Key{Ino: 1, What: 1, Name: "x", Chunk: 1}, "n")), facts(l[0], l[1], put(api.Key{Ino: 1, What: 1, Name: "x", Chunk: 1}, "n"), l[2]))
	wantApply(t, l, changes(gone(api.Key{})), facts(l[1], l[2]))
}

// unordered are lists that are not in order, or of which two have one key.
func unordered() [][]api.Fact {
	a, b, c, d := put(node(1), "a"), put(entry(1, "x"), "b"), put(piece(1, 0), "c"), put(node(2), "d")
	return [][]api.Fact{
		{b, a}, {a, a}, {a, put(node(1), "other")}, {d, c, b, a}, {b, a, c, d}, {a, c, b, d}, {a, b, d, c}, {a, b, c, c}, {a, a, b, c, d},
		{a, b, b, c, d}, {d, a, b, c}, {a, b, c, d, a}, {put(piece(1, 1), "b"), put(piece(1, 0), "c")}, {put(entry(1, "ab"), "b"), put(entry(1, "a"), "c")},
		{put(api.Key{}, "a"), put(api.Key{}, "b")},
	}
}

func TestApplyUnordered(t *testing.T) {
	for _, l := range unordered() {
		wantApply(t, l, nil, nil)
		wantApply(t, l, changes(set(node(7), "x")), nil)
		for _, f := range l {
			wantApply(t, l, changes(gone(f.Key)), nil)
			wantApply(t, l, changes(set(f.Key, "x")), nil)
		}
	}
}

// P6.3: Find.

func wantFind(t *testing.T, l []api.Fact, k api.Key, want string, ok bool) {
	t.Helper()
	if v, gotOK := fact.Find(l, k); string(v) != want || gotOK != ok {
		t.Errorf("Find(%s, %#v) = %q, %v; want %q, %v", text(l), k, v, gotOK, want, ok)
	}
}

func TestFindEachPlace(t *testing.T) {
	for n := range 18 {
		var l []api.Fact
		for i := range n {
			l = append(l, put(node(2*i+2), fmt.Sprint("v", i)))
		}
		for i := range n {
			wantFind(t, l, node(2*i+2), fmt.Sprint("v", i), true)
		}
		for i := range n + 1 {
			wantFind(t, l, node(2*i+1), "", false)
		}
		wantFind(t, l, node(0), "", false)
		wantFind(t, l, node(2*n+2), "", false)
	}
}

// A key that differs in one field alone is another one.
func TestFindOneField(t *testing.T) {
	var l []api.Fact
	for i, k := range goodKeys() {
		l = append(l, put(k, fmt.Sprint(i)))
	}
	for i, k := range goodKeys() {
		wantFind(t, l, k, fmt.Sprint(i), true)
		without := slices.Concat(l[:i], l[i+1:])
		wantFind(t, without, k, "", false)
	}
	for _, k := range badKeys() {
		wantFind(t, l, k, "", false)
	}
}

func TestFindNothing(t *testing.T) {
	wantFind(t, nil, node(1), "", false)
	wantFind(t, []api.Fact{}, node(1), "", false)
	wantFind(t, []api.Fact{}, api.Key{}, "", false)
	wantFind(t, facts(put(node(1), "")), node(1), "", true)
	wantFind(t, facts(api.Fact{Key: node(1)}), node(1), "", true)
	for _, l := range unordered() {
		for _, f := range l {
			wantFind(t, l, f.Key, "", false)
		}
		if v, _ := fact.Find(l, l[0].Key); v != nil {
			t.Errorf("Find(%s) has a value of %x beside no", text(l), v)
		}
	}
}

// P6.3: Same.

func TestSame(t *testing.T) {
	k := entry(5, "ab")
	all := [][]api.Fact{
		nil,
		facts(put(k, "a")),
		facts(put(k, "b")),
		facts(put(k, "")),
		facts(put(k, "aa")),
		facts(put(k, "a\x00")),
		facts(put(entry(5, "a"), "a")),
		facts(put(entry(6, "ab"), "a")),
		facts(put(api.Key{Ino: 5, What: 1, Name: "ab"}, "a")),
		facts(put(api.Key{Ino: 5, What: 2, Name: "ab", Chunk: 1}, "a")),
		facts(put(k, "a"), put(node(6), "b")),
		facts(put(k, "a"), put(node(6), "c")),
		facts(put(k, "b"), put(node(6), "b")),
		facts(put(k, "a"), put(node(7), "b")),
		facts(put(node(1), "b"), put(k, "a")),
		facts(put(node(6), "b")),
		facts(put(k, "a"), put(node(6), "b"), put(node(7), "c")),
	}
	for i, a := range all {
		for j, b := range all {
			own := fact.Apply(b, nil)
			if got := fact.Same(a, own); got != (i == j) {
				t.Errorf("Same(%s, %s) = %v", text(a), text(b), got)
			}
		}
	}
}

func TestSameNil(t *testing.T) {
	for _, a := range [][]api.Fact{nil, {}, make([]api.Fact, 0, 3)} {
		for _, b := range [][]api.Fact{nil, {}, make([]api.Fact, 0, 3)} {
			if !fact.Same(a, b) {
				t.Error("Same of no facts = false")
			}
		}
		if one := facts(put(node(1), "a")); fact.Same(a, one) || fact.Same(one, a) {
			t.Error("Same of none and one = true")
		}
	}
	none, empty := facts(api.Fact{Key: node(1)}), facts(api.Fact{Key: node(1), Value: []byte{}})
	if !fact.Same(none, empty) || !fact.Same(empty, none) {
		t.Error("Same of a value that is nil and one without bytes = false")
	}
}

// Facts that are not in order are held against each other one by one.
func TestSameUnordered(t *testing.T) {
	for i, a := range unordered() {
		for j, b := range unordered() {
			if got := fact.Same(a, b); got != (i == j) {
				t.Errorf("Same(%s, %s) = %v", text(a), text(b), got)
			}
		}
	}
}

// P6.4: what follows.

func TestKeysComeBack(t *testing.T) {
	seen := map[string]api.Key{}
	for _, k := range goodKeys() {
		b, e := fact.PutKey(k)
		if e != api.OK {
			t.Fatalf("PutKey(%#v): %d", k, e)
		}
		wantGetKey(t, b, k, api.OK, 0)
		if other, twice := seen[string(b)]; twice {
			t.Errorf("%x are the bytes of %#v and %#v", b, k, other)
		}
		seen[string(b)] = k
	}
}

// What GetKey takes for a key is that key's bytes, and no other's.
func TestBytesAreOneKeys(t *testing.T) {
	r := rand.New(rand.NewSource(6))
	found := 0
	for range 100000 {
		b := make([]byte, r.Intn(9))
		for i := range b {
			b[i] = []byte{0, 1, 2, 3, 7, 8, 'a', '.', '-', byte(r.Intn(256))}[r.Intn(10)]
		}
		reader := ends.New(b)
		k, e := fact.GetKey(reader)
		if e != api.OK {
			continue
		}
		found++
		wantPutKey(t, k, b[:len(b)-reader.Left()], api.OK)
	}
	if found < 1000 {
		t.Errorf("only %d keys were found", found)
	}
}

func TestValuesComeBack(t *testing.T) {
	for kind := range 5 {
		for _, links := range []int{-1, 0, 1, 6, 7, 255, 256} {
			for _, size := range []int{-1, 0, 1, 255, 256, 1600, 65535, 65536} {
				n := api.Node{Kind: uint8(kind), Links: links, Size: size}
				v, e := fact.NodeValue(n)
				if e != api.OK {
					continue
				}
				if got, e := fact.Node(v); got != n || e != api.OK {
					t.Errorf("Node(%x) = %#v, %d; want %#v", v, got, e, n)
				}
			}
		}
	}
}

// fewKeys are so few that random changes often meet.
func fewKeys() []api.Key {
	return []api.Key{
		node(1), entry(1, "-"), entry(1, "a"), entry(1, "a."), entry(1, "ab"), entry(1, "b"), node(2), piece(2, 0), piece(2, 1), piece(2, 7),
		node(3), entry(3, "a"), node(256), piece(256, 0), node(65535), piece(65535, 7),
	}
}

func randomChanges(r *rand.Rand, n int) []api.Change {
	keys := fewKeys()
	var c []api.Change
	for range n {
		k := keys[r.Intn(len(keys))]
		if r.Intn(3) == 0 {
			c = append(c, gone(k))
		} else {
			c = append(c, set(k, fmt.Sprint("v", r.Intn(5))))
		}
	}
	return c
}

// plainApply keeps values by their keys, and tells them in order at the end.
func plainApply(l []api.Fact, c []api.Change) []api.Fact {
	kept := map[api.Key]string{}
	for _, f := range l {
		kept[f.Key] = string(f.Value)
	}
	for _, x := range c {
		if x.Gone {
			delete(kept, x.Key)
		} else {
			kept[x.Key] = string(x.Value)
		}
	}
	var out []api.Fact
	for _, k := range fewKeys() {
		if v, ok := kept[k]; ok {
			out = append(out, put(k, v))
		}
	}
	return out
}

// What was changed is found, nothing else has changed, and the same changes
// twice change nothing more.
func TestPlainRandomChanges(t *testing.T) {
	r := rand.New(rand.NewSource(7))
	for range 300 {
		var l []api.Fact
		for range 30 {
			c := randomChanges(r, r.Intn(12))
			want := plainApply(l, c)
			wantApply(t, l, c, want)
			behind := fact.Apply(l, c)
			wantChanged(t, l, behind, c)
			if again := fact.Apply(behind, c); !fact.Same(again, behind) {
				t.Errorf("Apply of the same changes twice: %s; once: %s", text(again), text(behind))
			}
			if got := plainSame(l, behind); fact.Same(l, behind) != got {
				t.Errorf("Same(%s, %s) = %v", text(l), text(behind), !got)
			}
			l = behind
		}
	}
}

func plainSame(a, b []api.Fact) bool { return text(a) == text(b) }

// wantChanged: of each key the last change is found, or, if there is none, what
// was ahead.
func wantChanged(t *testing.T, ahead, behind []api.Fact, c []api.Change) {
	t.Helper()
	for _, k := range fewKeys() {
		want, ok := fact.Find(ahead, k)
		for _, x := range c {
			if x.Key == k {
				want, ok = x.Value, !x.Gone
			}
		}
		wantFind(t, behind, k, string(want), ok)
	}
	for i := 1; i < len(behind); i++ {
		wantBefore(t, behind[i-1].Key, behind[i].Key, true)
	}
}

// One by one the changes make what they make together.
func TestApplyOneByOne(t *testing.T) {
	r := rand.New(rand.NewSource(8))
	for range 500 {
		start := fact.Apply(nil, randomChanges(r, r.Intn(20)))
		c := randomChanges(r, r.Intn(20))
		one := start
		for i := range c {
			one = fact.Apply(one, c[i:i+1])
		}
		wantApply(t, start, c, one)
	}
}

// Many facts and many changes are gone through without a wait.
func TestApplyGreatLists(t *testing.T) {
	var l []api.Fact
	var c []api.Change
	for ino := 1; ino <= 65535; ino++ {
		l = append(l, put(node(ino), "a"))
		c = append(c, gone(node(65536-ino)), set(piece(ino, 3), "b"))
	}
	got := fact.Apply(l, c)
	if len(got) != 65535 {
		t.Fatalf("Apply: %d facts", len(got))
	}
	for i, f := range got {
		if f.Key != piece(i+1, 3) || string(f.Value) != "b" {
			t.Fatalf("Apply: %s", text(got[i:i+1]))
		}
	}
}

// The rules.

// roomy answers bytes with room behind them, that tells what was written there.
func roomy(v string) []byte {
	b := append([]byte(v), "room"...)
	return b[:len(v)]
}

// wholeRoom answers all of what stands in a list's room, values and theirs, too.
func wholeRoom(l []api.Fact) string {
	l = l[:cap(l)]
	s := text(l)
	for _, f := range l {
		s += fmt.Sprintf("%v %x; ", f.Value == nil, f.Value[:cap(f.Value)])
	}
	return s
}

func wholeChanges(c []api.Change) string {
	c = c[:cap(c)]
	s := ""
	for _, x := range c {
		s += fmt.Sprintf("%#v %v %x; ", x.Key, x.Gone, x.Value[:cap(x.Value)])
	}
	return s
}

// roomyFacts and roomyChanges have facts, changes behind their end, too.
func roomyFacts() []api.Fact {
	l := make([]api.Fact, 0, 8)
	for i := range 8 {
		l = append(l, api.Fact{Key: node(2 * (i + 1)), Value: roomy(fmt.Sprint("v", i))})
	}
	return l[:4]
}

func roomyChanges() []api.Change {
	c := []api.Change{
		{Key: node(9), Value: roomy("n9")}, {Key: node(2), Gone: true}, {Key: node(3), Value: roomy("n3")}, {Key: node(4), Value: roomy("n4")},
		{Key: node(9), Value: roomy("m9")}, {Key: node(1), Value: roomy("n1")}, {Key: node(5), Gone: true}, {Key: node(7), Value: roomy("behind")},
	}
	return c[:7]
}

func TestHandedInStays(t *testing.T) {
	l, c := roomyFacts(), roomyChanges()
	wasL, wasC := wholeRoom(l), wholeChanges(c)
	fact.Apply(l, c)
	fact.Apply(l, nil)
	fact.Apply(nil, c)
	for ino := range 12 {
		fact.Find(l, node(ino))
	}
	fact.Same(l, l)
	fact.Same(l, l[:3])
	if wholeRoom(l) != wasL || wholeChanges(c) != wasC {
		t.Errorf("what was handed in has changed: %s %s", wholeRoom(l), wholeChanges(c))
	}
	out := unordered()[3]
	was := wholeRoom(out)
	fact.Apply(out, c)
	fact.Find(out, out[0].Key)
	if wholeRoom(out) != was {
		t.Error("what was handed in has changed, where it was not in order")
	}
	b := roomy("\x02\x01\x02\x03")
	node, _ := fact.Node(b)
	entry, _ := fact.Entry(b[:2])
	if string(b[:cap(b)][:8]) != "\x02\x01\x02\x03room" || node.Size != 770 || entry != 258 {
		t.Errorf("the bytes have changed: %x", b[:cap(b)])
	}
}

// spoil writes over all that the list reaches, the room behind it too.
func spoil(l []api.Fact) {
	for i := range l {
		v := l[i].Value
		v = v[:cap(v)]
		for j := range v {
			v[j] = 'X'
		}
	}
	l = l[:cap(l)]
	for i := range l {
		l[i] = put(api.Key{Ino: -7}, "spoilt")
	}
}

func TestAnswersAreNewMemory(t *testing.T) {
	for _, c := range [][]api.Change{nil, {}, roomyChanges(), roomyChanges()[:1], {gone(node(77))}, {gone(node(8))}, {gone(node(2))}} {
		l := roomyFacts()
		wasL, wasC := wholeRoom(l), wholeChanges(c)
		first, second := fact.Apply(l, c), fact.Apply(l, c)
		want := text(first)
		spoil(first)
		if wholeRoom(l) != wasL || wholeChanges(c) != wasC {
			t.Error("Apply: the answer shares memory with what was handed in")
		}
		if text(second) != want || text(fact.Apply(l, c)) != want {
			t.Error("Apply: two answers share memory")
		}
		wasSecond := text(second)
		spoil(l)
		for i := range c {
			clear(c[i].Value[:cap(c[i].Value)])
		}
		if text(second) != wasSecond {
			t.Error("Apply: what was handed in is kept in the answer")
		}
	}
}

// Two values that share memory where they are handed in share none behind.
func TestValuesOfOneAnswerAreTheirOwn(t *testing.T) {
	v := roomy("value")
	l := []api.Fact{{Key: node(1), Value: v}, {Key: node(2), Value: v}, {Key: node(3), Value: v[:2]}}
	c := []api.Change{{Key: node(4), Value: v}, {Key: node(5), Value: v}, {Key: node(2), Value: v[:3]}}
	out := fact.Apply(l, c)
	if len(out) != 5 {
		t.Fatalf("Apply: %s", text(out))
	}
	for i := range out {
		got := fact.Apply(l, c)
		room := got[i].Value[:cap(got[i].Value)]
		for j := range room {
			room[j] = 'X'
		}
		for j := range got {
			if j != i && !bytes.Equal(got[j].Value, out[j].Value) {
				t.Errorf("the values of %d and %d share memory", i, j)
			}
		}
	}
}

func TestFoundIsNewMemory(t *testing.T) {
	l := roomyFacts()
	was := wholeRoom(l)
	for _, f := range l {
		v, _ := fact.Find(l, f.Key)
		other, _ := fact.Find(l, f.Key)
		v = v[:cap(v)]
		for i := range v {
			v[i] = 'X'
		}
		if wholeRoom(l) != was {
			t.Error("Find: the answer shares memory with the facts")
		}
		if !bytes.Equal(other, f.Value) {
			t.Error("Find: two answers share memory")
		}
	}
}

func TestBytesAreNewMemory(t *testing.T) {
	for what, call := range map[string]func() []byte{
		"PutKey of a node":   func() []byte { b, _ := fact.PutKey(node(5)); return b },
		"PutKey of an entry": func() []byte { b, _ := fact.PutKey(entry(5, "ab")); return b },
		"PutKey of a piece":  func() []byte { b, _ := fact.PutKey(piece(5, 7)); return b },
		"NodeValue":          func() []byte { b, _ := fact.NodeValue(api.Node{Kind: 2, Links: 1, Size: 9}); return b },
		"EntryValue":         func() []byte { b, _ := fact.EntryValue(258); return b },
	} {
		first, second := call(), call()
		want := slices.Clone(first)
		first = first[:cap(first)]
		for i := range first {
			first[i] = 'X'
		}
		if !bytes.Equal(second, want) || !bytes.Equal(call(), want) {
			t.Errorf("%s: two answers share memory", what)
		}
	}
}

// The bytes that a reader was made of are its own, and so is a key's name.
func TestGetKeyKeepsNothing(t *testing.T) {
	b := plainKey(entry(5, "ab"))
	k, _ := fact.GetKey(ends.New(b))
	clear(b)
	if k != entry(5, "ab") {
		t.Errorf("the key has become %#v", k)
	}
}
