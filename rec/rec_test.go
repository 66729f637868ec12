package rec_test

import (
	"bytes"
	"fmt"
	"math"
	"slices"
	"strings"
	"testing"

	"carrack/api"
	"carrack/rec"
	"carrack/seal"
)

func node(ino int) api.Key {
	return api.Key{Ino: ino, What: api.OfNode}
}

func entry(ino int, name string) api.Key {
	return api.Key{Ino: ino, What: api.OfEntry, Name: name}
}

func piece(ino, chunk int) api.Key {
	return api.Key{Ino: ino, What: api.OfPiece, Chunk: chunk}
}

// set is a change to a value of n bytes.
func set(k api.Key, n int) api.Change {
	return api.Change{Key: k, Value: counting(n)}
}

func gone(k api.Key) api.Change {
	return api.Change{Key: k, Gone: true}
}

func changes(l ...api.Change) []api.Change { return l }

// counting answers n bytes, no two neighbours of which are the same.
func counting(n int) []byte {
	b := make([]byte, n)
	for i := range b {
		b[i] = byte(7*i + 3)
	}
	return b
}

// many are n changes that are Gone, no two of one key.
func many(n int) []api.Change {
	var l []api.Change
	for i := range n {
		l = append(l, gone(node(i+1)))
	}
	return l
}

// goodKeys are keys of every kind, at the ends of each field, too.
var goodKeys = []api.Key{
	node(1), node(2), node(255), node(256), node(258), node(65535),
	entry(1, "a"), entry(5, "ab"), entry(256, "..."), entry(65535, "abcdefghijkl"), entry(7, "0-.z"),
	piece(1, 0), piece(5, 1), piece(257, 6), piece(65535, 7),
}

// badKeys are wrong in just one field each, but for the last two.
var badKeys = []api.Key{
	node(0), node(-1), node(65536), node(math.MaxInt), node(math.MinInt),
	entry(0, "a"), entry(65536, "a"), entry(1, ""), entry(1, "."), entry(1, ".."), entry(1, "A"), entry(1, "a/b"),
	entry(1, "abcdefghijklm"), entry(1, strings.Repeat("a", 256)), entry(1, "\x00"), entry(1, "\xff"),
	piece(0, 0), piece(65536, 0), piece(1, -1), piece(1, 8), piece(1, 256), piece(1, math.MaxInt),
	{Ino: 1}, {Ino: 1, What: 4}, {Ino: 1, What: 255},
	{Ino: 1, What: api.OfNode, Name: "a"}, {Ino: 1, What: api.OfNode, Chunk: 1},
	{Ino: 1, What: api.OfEntry, Name: "a", Chunk: 1}, {Ino: 1, What: api.OfPiece, Name: "a"},
	{}, {Ino: -1, What: 9, Name: "/", Chunk: -1},
}

// goodSizes and noSizes are sizes that pages have, and some that they have not.
var (
	goodSizes = []int{128, 129, 130, 200, 255, 256}
	noSizes   = []int{math.MinInt, -128, -1, 0, 1, 64, 126, 127, 257, 258, 1<<16 + 128, math.MaxInt}
)

// text tells changes, nil and empty lists alike.
func text(l []api.Change) string {
	s := ""
	for _, c := range l {
		s += fmt.Sprintf("%#v %x %v\n", c.Key, c.Value, c.Gone)
	}
	return s
}

// wantPut: the page of the size, of the kind 2, with the body.
func wantPut(t *testing.T, size int, l []api.Change, body []byte) {
	t.Helper()
	page, e := rec.Put(size, l)
	if e != api.OK || len(page) != size {
		t.Fatalf("Put(%d, %s) = %x, %d; want a page of %x", size, text(l), page, e, body)
	}
	kind, got, e := seal.Get(page)
	if kind != 2 || !bytes.Equal(got, body) || e != api.OK {
		t.Errorf("Put(%d, %s): kind %d, body %x, %d; want 2, %x", size, text(l), kind, got, e, body)
	}
	want, _ := seal.Put(size, 2, body)
	if !bytes.Equal(page, want) {
		t.Errorf("Put(%d, %s) = %x; want %x", size, text(l), page, want)
	}
}

func wantNoPut(t *testing.T, size int, l []api.Change, e api.Errno) {
	t.Helper()
	if page, got := rec.Put(size, l); len(page) != 0 || got != e {
		t.Errorf("Put(%d, %s) = %x, %d; want %d", size, text(l), page, got, e)
	}
}

func wantLength(t *testing.T, l []api.Change, n int) {
	t.Helper()
	if got := rec.Length(l); got != n {
		t.Errorf("Length(%s) = %d; want %d", text(l), got, n)
	}
}

func wantGet(t *testing.T, body []byte, l []api.Change) {
	t.Helper()
	if got, e := rec.Get(body); text(got) != text(l) || e != api.OK {
		t.Errorf("Get(%x) = %s, %d; want %s", body, text(got), e, text(l))
	}
}

func wantNoGet(t *testing.T, body []byte, e api.Errno) {
	t.Helper()
	if got, gotE := rec.Get(body); len(got) != 0 || gotE != e {
		t.Errorf("Get(%x) = %s, %d; want %d", body, text(got), gotE, e)
	}
}

func wantGetDrop(t *testing.T, body []byte, seq uint64, e api.Errno) {
	t.Helper()
	if got, gotE := rec.GetDrop(body); got != seq || gotE != e {
		t.Errorf("GetDrop(%x) = %d, %d; want %d, %d", body, got, gotE, seq, e)
	}
}

// The chapter's examples.

func TestExamples(t *testing.T) {
	wantPut(t, 128, changes(gone(node(5))), []byte{1, 0, 5, 0, 1})
	wantNoGet(t, []byte{0}, api.ErrForm)
	wantNoGet(t, []byte{1, 2, 5, 0, 1}, api.ErrForm)
	if page, e := rec.PutDrop(128, 0); len(page) != 0 || e != api.ErrArg {
		t.Errorf("PutDrop(128, 0) = %x, %d", page, e)
	}
}

// P11.1: Put.

func TestPutEachField(t *testing.T) {
	for _, x := range []struct {
		l    []api.Change
		body []byte
	}{
		{changes(set(node(258), 1)), []byte{1, 1, 2, 1, 1, 1, 3}},
		{changes(set(node(1), 3)), []byte{1, 1, 1, 0, 1, 3, 3, 10, 17}},
		{changes(set(entry(5, "ab"), 2)), []byte{1, 1, 5, 0, 2, 2, 'a', 'b', 2, 3, 10}},
		{changes(gone(entry(5, "ab"))), []byte{1, 0, 5, 0, 2, 2, 'a', 'b'}},
		{changes(set(piece(5, 7), 1)), []byte{1, 1, 5, 0, 3, 7, 1, 3}},
		{changes(gone(piece(65535, 0))), []byte{1, 0, 255, 255, 3, 0}},
		{changes(gone(node(2)), set(piece(1, 0), 1), gone(entry(1, "a"))), []byte{3, 0, 2, 0, 1, 1, 1, 0, 3, 0, 1, 3, 0, 1, 0, 2, 1, 'a'}},
	} {
		for _, size := range goodSizes {
			wantPut(t, size, x.l, x.body)
		}
		wantGet(t, x.body, x.l)
		wantLength(t, x.l, len(x.body))
	}
}

// Changes stand as they are handed in: in no order, also two of one key, and two
// that are the same.
func TestPutInTheirOrder(t *testing.T) {
	one, two := api.Change{Key: node(9), Value: []byte{1}}, api.Change{Key: node(9), Value: []byte{2}}
	wantPut(t, 128, changes(two, one), []byte{2, 1, 9, 0, 1, 1, 2, 1, 9, 0, 1, 1, 1})
	wantPut(t, 128, changes(one, two), []byte{2, 1, 9, 0, 1, 1, 1, 1, 9, 0, 1, 1, 2})
	wantPut(t, 128, changes(one, gone(node(9)), one), []byte{3, 1, 9, 0, 1, 1, 1, 0, 9, 0, 1, 1, 9, 0, 1, 1, 1})
	wantPut(t, 128, changes(gone(node(9)), gone(node(9))), []byte{2, 0, 9, 0, 1, 0, 9, 0, 1})
	wantPut(t, 128, changes(gone(piece(9, 1)), gone(node(3))), []byte{2, 0, 9, 0, 3, 1, 0, 3, 0, 1})
}

// A value is bytes, whatever they say: of a node, too, it needs to be no node's.
func TestPutAnyValue(t *testing.T) {
	for _, k := range goodKeys {
		for _, v := range [][]byte{{0}, {255}, {0, 0}, bytes.Repeat([]byte{255}, 40), make([]byte, 90)} {
			l := changes(api.Change{Key: k, Value: v})
			wantPut(t, 128, l, plainBody(l))
		}
	}
}

func TestPutBadKeys(t *testing.T) {
	for _, k := range badKeys {
		for _, c := range []api.Change{gone(k), set(k, 1), set(k, 0), set(k, 256)} {
			for _, l := range [][]api.Change{changes(c), changes(c, gone(node(1))), changes(gone(node(1)), c), append(many(254), c)} {
				for _, size := range []int{127, 128, 256} {
					wantNoPut(t, size, l, api.ErrArg)
				}
				wantLength(t, l, 0)
			}
		}
	}
}

// badValues are changes of which the key may be, and nothing else.
func badValues() []api.Change {
	var l []api.Change
	for _, k := range []api.Key{node(5), entry(5, "ab"), piece(5, 7)} {
		l = append(l, api.Change{Key: k}, api.Change{Key: k, Value: []byte{}}, set(k, 256), set(k, 257), set(k, 511), set(k, 512), set(k, 65537))
		for _, n := range []int{1, 2, 255, 256, 257} {
			l = append(l, api.Change{Key: k, Value: counting(n), Gone: true})
		}
	}
	return l
}

func TestPutBadValues(t *testing.T) {
	for _, c := range badValues() {
		for _, l := range [][]api.Change{changes(c), changes(c, gone(node(1))), changes(set(node(1), 4), c)} {
			for _, size := range []int{0, 128, 256} {
				wantNoPut(t, size, l, api.ErrArg)
			}
			wantLength(t, l, 0)
		}
	}
}

// A value of up to 255 bytes is one, though no page has room for it.
func TestPutLongValues(t *testing.T) {
	for _, n := range []int{1, 2, 100, 243, 244, 245, 254, 255} {
		l := changes(set(node(5), n))
		wantLength(t, l, 6+n)
		for _, size := range goodSizes {
			if 6+n > size-5 {
				wantNoPut(t, size, l, api.ErrLimit)
			} else {
				wantPut(t, size, l, plainBody(l))
			}
		}
	}
}

// What is Gone has no value, be it nil or of no bytes.
func TestPutGoneOfNoBytes(t *testing.T) {
	for _, k := range goodKeys {
		l := changes(api.Change{Key: k, Value: []byte{}, Gone: true})
		wantPut(t, 128, l, plainBody(changes(gone(k))))
		wantLength(t, l, len(plainBody(changes(gone(k)))))
	}
}

func TestPutHowMany(t *testing.T) {
	for _, l := range [][]api.Change{nil, {}, many(256), many(257), many(511), many(512), many(65537)} {
		for _, size := range []int{127, 128, 256} {
			wantNoPut(t, size, l, api.ErrArg)
		}
		wantLength(t, l, 0)
	}
	for _, n := range []int{1, 2, 30, 31, 62, 63, 254, 255} {
		l := many(n)
		wantLength(t, l, 1+4*n)
		for _, size := range goodSizes {
			if 1+4*n > size-5 {
				wantNoPut(t, size, l, api.ErrLimit)
			} else {
				wantPut(t, size, l, plainBody(l))
			}
		}
	}
}

// Of two faults of a list each alone would be ErrArg, and so are both.
func TestPutTwoFaults(t *testing.T) {
	for _, bad := range badValues() {
		for _, l := range [][]api.Change{
			changes(gone(node(0)), bad), changes(bad, gone(node(0))), changes(bad, bad),
			append(many(255), bad), append(changes(bad), many(300)...), append(many(256), gone(node(0))),
		} {
			wantNoPut(t, 128, l, api.ErrArg)
			wantLength(t, l, 0)
		}
	}
}

// What is wrong with the list is told ahead of what seal refuses.
func TestPutListAheadOfSeal(t *testing.T) {
	long := changes(set(node(1), 255))
	for _, size := range noSizes {
		wantNoPut(t, size, many(1), api.ErrArg)
		wantNoPut(t, size, long, api.ErrArg)
		wantNoPut(t, size, many(255), api.ErrArg)
		wantNoPut(t, size, nil, api.ErrArg)
		wantNoPut(t, size, many(256), api.ErrArg)
		wantNoPut(t, size, changes(gone(node(0))), api.ErrArg)
	}
	for _, size := range goodSizes {
		wantNoPut(t, size, long, api.ErrLimit)
		wantNoPut(t, size, append(long, gone(node(0))), api.ErrArg)
		wantNoPut(t, size, append(changes(gone(node(0))), long...), api.ErrArg)
		wantNoPut(t, size, append(long, set(node(1), 0)), api.ErrArg)
		wantNoPut(t, size, append(long, many(255)...), api.ErrArg)
	}
}

// A body may be just as long as a page of the size has room for.
func TestPutJustAsLong(t *testing.T) {
	for size := 128; size <= 256; size++ {
		most := size - 5
		for _, k := range goodKeys {
			ahead := len(plainBody(changes(set(k, 1)))) - 1
			full := changes(set(k, most-ahead))
			wantPut(t, size, full, plainBody(full))
			wantLength(t, full, most)
			wantNoPut(t, size, changes(set(k, most-ahead+1)), api.ErrLimit)
			wantLength(t, changes(set(k, most-ahead+1)), most+1)
			two := changes(gone(node(1)), set(k, most-ahead-4))
			wantPut(t, size, two, plainBody(two))
			wantNoPut(t, size, changes(gone(node(1)), set(k, most-ahead-3)), api.ErrLimit)
		}
	}
}

// P11.1: Length.

func TestLengthOfWhatPutMakes(t *testing.T) {
	for _, l := range someLists() {
		page, e := rec.Put(256, l)
		_, body, _ := seal.Get(page)
		if e != api.OK || rec.Length(l) != len(body) {
			t.Errorf("Length(%s) = %d; want %d (%d)", text(l), rec.Length(l), len(body), e)
		}
	}
}

// What seal alone refuses has a length still, up to the longest that there is.
func TestLengthOfWhatSealRefuses(t *testing.T) {
	var longest []api.Change
	for i := range 255 {
		longest = append(longest, set(entry(i+1, "abcdefghijkl"), 255))
	}
	wantNoPut(t, 256, longest, api.ErrLimit)
	wantLength(t, longest, 1+255*(1+16+256))
	wantLength(t, longest[:1], 1+1+16+256)
	wantLength(t, append(longest, gone(node(1))), 0)
}

// P11.1: Get.

// someLists are lists that a page of 256 bytes has room for.
func someLists() [][]api.Change {
	var all [][]api.Change
	for i, k := range goodKeys {
		next := goodKeys[(i+1)%len(goodKeys)]
		all = append(all,
			changes(gone(k)), changes(set(k, 1)), changes(set(k, 40)), changes(gone(k), set(next, 9)),
			changes(set(next, 3), set(k, 2), gone(k)), changes(set(k, 5), set(k, 5)),
		)
	}
	return append(all, many(30), many(62))
}

func TestGetOfEachBody(t *testing.T) {
	for _, l := range someLists() {
		wantGet(t, plainBody(l), l)
	}
}

func TestGetBeginnings(t *testing.T) {
	for _, l := range someLists() {
		body := plainBody(l)
		for n := range body {
			wantNoGet(t, body[:n], api.ErrShort)
		}
	}
	wantNoGet(t, nil, api.ErrShort)
	wantNoGet(t, []byte{}, api.ErrShort)
}

func TestGetBytesLeft(t *testing.T) {
	for _, l := range someLists() {
		body := plainBody(l)
		for x := range 256 {
			wantNoGet(t, append(slices.Clone(body), byte(x)), api.ErrForm)
		}
		wantNoGet(t, append(slices.Clone(body), body...), api.ErrForm)
		wantNoGet(t, append(slices.Clone(body), body[1:]...), api.ErrForm)
	}
}

func TestGetWrongCount(t *testing.T) {
	for _, l := range someLists() {
		body := plainBody(l)
		body[0]--
		wantNoGet(t, body, api.ErrForm)
		body[0] += 2
		wantNoGet(t, body, api.ErrShort)
		body[0] = 255
		wantNoGet(t, body, api.ErrShort)
		body[0] = 0
		wantNoGet(t, body, api.ErrForm)
	}
	wantNoGet(t, []byte{0, 0, 5, 0, 1}, api.ErrForm)
	wantNoGet(t, []byte{1}, api.ErrShort)
	wantNoGet(t, []byte{255}, api.ErrShort)
}

// As many changes as a byte can count are read, though no page has so many.
func TestGetMostChanges(t *testing.T) {
	l := many(255)
	wantGet(t, plainBody(l), l)
	wantNoGet(t, plainBody(l)[:4*255], api.ErrShort)
	wantNoGet(t, append(plainBody(l), 0), api.ErrForm)
}

// What is neither 0 nor 1 is wrong where it stands: what follows is not asked.
func TestGetWrongAheadOfKey(t *testing.T) {
	for x := 2; x < 256; x++ {
		for _, behind := range [][]byte{nil, {5}, {5, 0, 1}, {5, 0, 1, 1, 9}, {0, 0, 1}, {5, 0, 9}, {5, 0, 2, 200}} {
			wantNoGet(t, append([]byte{1, byte(x)}, behind...), api.ErrForm)
			wantNoGet(t, append([]byte{2, 0, 7, 0, 1, byte(x)}, behind...), api.ErrForm)
			wantNoGet(t, append([]byte{2, 1, 7, 0, 1, 1, 7, byte(x)}, behind...), api.ErrForm)
		}
	}
}

// 0 and 1 say whether a value follows: each of them is wrong of the other's.
func TestGetOtherStand(t *testing.T) {
	wantNoGet(t, []byte{1, 1, 5, 0, 1}, api.ErrShort)
	wantNoGet(t, []byte{1, 0, 5, 0, 1, 1, 9}, api.ErrForm)
	wantNoGet(t, []byte{1, 0, 5, 0, 1, 0}, api.ErrForm)
	wantNoGet(t, []byte{2, 1, 5, 0, 1, 0, 6, 0, 1}, api.ErrForm)
}

func TestGetKeys(t *testing.T) {
	for what := range 256 {
		body := []byte{1, 0, 5, 0, byte(what)}
		switch what {
		case 1:
			wantGet(t, body, changes(gone(node(5))))
		case 2, 3:
			wantNoGet(t, body, api.ErrShort)
		default:
			wantNoGet(t, body, api.ErrForm)
			wantNoGet(t, append(body, 0, 0, 0, 0), api.ErrForm)
		}
	}
	for chunk := range 256 {
		body := []byte{1, 0, 5, 0, 3, byte(chunk)}
		if chunk < 8 {
			wantGet(t, body, changes(gone(piece(5, chunk))))
			continue
		}
		wantNoGet(t, body, api.ErrForm)
		wantNoGet(t, append([]byte{1, 1}, append(body[2:], 1, 9)...), api.ErrForm)
	}
	for _, name := range []string{"", ".", "..", "A", "a/b", "abcdefghijklm", strings.Repeat("a", 255), "\x00", "\xff"} {
		body := append([]byte{1, 0, 5, 0, 2, byte(len(name))}, name...)
		wantNoGet(t, body, api.ErrForm)
		wantNoGet(t, body[:len(body)-1], api.ErrShort)
	}
	for _, key := range [][]byte{{0, 0, 1}, {0, 0, 2, 1, 'a'}, {0, 0, 3, 0}} {
		wantNoGet(t, append([]byte{1, 0}, key...), api.ErrForm)
		wantNoGet(t, append(append([]byte{1, 1}, key...), 1, 9), api.ErrForm)
		wantNoGet(t, append(append([]byte{1, 1}, key...), 9), api.ErrForm)
	}
}

func TestGetValues(t *testing.T) {
	ahead := []byte{1, 1, 5, 0, 1}
	for n := range 256 {
		body := append(append(slices.Clone(ahead), byte(n)), counting(n)...)
		if n == 0 {
			wantNoGet(t, body, api.ErrForm)
			wantNoGet(t, append(body, 9), api.ErrForm)
			continue
		}
		wantGet(t, body, changes(set(node(5), n)))
		wantNoGet(t, body[:len(body)-1], api.ErrShort)
		wantNoGet(t, body[:6], api.ErrShort)
	}
}

// The answer is that of the place at which a body goes on wrongly first.
func TestGetFirstWrong(t *testing.T) {
	wantNoGet(t, []byte{2, 1, 5, 0, 1, 0}, api.ErrForm)
	wantNoGet(t, []byte{2, 0, 0, 0, 1}, api.ErrForm)
	wantNoGet(t, []byte{9, 0, 5, 0, 4}, api.ErrForm)
	wantNoGet(t, []byte{2, 0, 5, 0, 1, 0, 5}, api.ErrShort)
	wantNoGet(t, []byte{1, 1, 0, 0}, api.ErrShort)
	wantNoGet(t, []byte{1, 1, 0, 0, 2, 200, 'A'}, api.ErrShort)
}

// P11.2: PutDrop, GetDrop.

// seqs have every byte on its own, and both ends of what a Seq can be.
func seqs() []uint64 {
	l := []uint64{1, 2, 255, 256, 258, math.MaxInt32, math.MaxUint32, math.MaxInt64, math.MaxUint64, 0x8877665544332211}
	for i := range 8 {
		l = append(l, 1<<(8*i), 0xa5<<(8*i), 0xff<<(8*i))
	}
	return l
}

// dropBody are the bytes of a Seq, the lowest first.
func dropBody(seq uint64) []byte {
	var b []byte
	for range 8 {
		b = append(b, byte(seq%256))
		seq /= 256
	}
	return b
}

func TestPutDrop(t *testing.T) {
	for _, seq := range seqs() {
		for _, size := range goodSizes {
			page, e := rec.PutDrop(size, seq)
			want, _ := seal.Put(size, 3, dropBody(seq))
			if !bytes.Equal(page, want) || len(page) != size || e != api.OK {
				t.Errorf("PutDrop(%d, %#x) = %x, %d; want %x", size, seq, page, e, want)
			}
			kind, body, _ := seal.Get(page)
			if kind != 3 {
				t.Errorf("PutDrop(%d, %#x) is of the kind %d", size, seq, kind)
			}
			wantGetDrop(t, body, seq, api.OK)
		}
	}
}

func TestPutDropRefused(t *testing.T) {
	for _, size := range append(slices.Clone(noSizes), goodSizes...) {
		if page, e := rec.PutDrop(size, 0); len(page) != 0 || e != api.ErrArg {
			t.Errorf("PutDrop(%d, 0) = %x, %d", size, page, e)
		}
	}
	for _, size := range noSizes {
		for _, seq := range seqs() {
			if page, e := rec.PutDrop(size, seq); len(page) != 0 || e != api.ErrArg {
				t.Errorf("PutDrop(%d, %d) = %x, %d", size, seq, page, e)
			}
		}
	}
}

func TestGetDrop(t *testing.T) {
	wantGetDrop(t, []byte{0x11, 0x22, 0x33, 0x44, 0x55, 0x66, 0x77, 0x88}, 0x8877665544332211, api.OK)
	for i := range 8 {
		for x := range 256 {
			body := make([]byte, 8)
			body[i] = byte(x)
			if x == 0 {
				wantGetDrop(t, body, 0, api.ErrForm)
			} else {
				wantGetDrop(t, body, uint64(x)<<(8*i), api.OK)
			}
		}
	}
}

func TestGetDropLengths(t *testing.T) {
	for n := range 300 {
		for _, fill := range []byte{0, 1, 255} {
			body := bytes.Repeat([]byte{fill}, n)
			if n == 8 && fill > 0 {
				wantGetDrop(t, body, uint64(fill)*0x0101010101010101, api.OK)
			} else {
				wantGetDrop(t, body, 0, api.ErrForm)
			}
		}
	}
	wantGetDrop(t, nil, 0, api.ErrForm)
}

// P11.3.

func TestChangesComeBack(t *testing.T) {
	for _, l := range someLists() {
		page, e := rec.Put(256, l)
		_, body, _ := seal.Get(page)
		if e != api.OK {
			t.Errorf("Put(256, %s) = %d", text(l), e)
		}
		wantGet(t, body, l)
	}
}

// Of two lists that are not the same no body is the same.
func TestBodiesAreOfOneList(t *testing.T) {
	lists := someLists()
	for _, k := range goodKeys {
		for _, v := range [][]byte{{0}, {1}, {0, 0}, {1, 0}, {0, 1}, {1, 0, 5, 0, 1}} {
			lists = append(lists, changes(api.Change{Key: k, Value: v}), changes(api.Change{Key: k, Value: v}, gone(node(5))))
		}
	}
	of := map[string]string{}
	for _, l := range lists {
		page, _ := rec.Put(256, l)
		_, body, e := seal.Get(page)
		if e != api.OK {
			t.Fatalf("Put(256, %s) is no page", text(l))
		}
		if other, ok := of[string(body)]; ok && other != text(l) {
			t.Errorf("%x is the body of %s and of %s", body, other, text(l))
		}
		of[string(body)] = text(l)
	}
}
