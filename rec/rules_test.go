package rec_test

import (
	"bytes"
	"fmt"
	"slices"
	"testing"

	"carrack/api"
	"carrack/rec"
	"carrack/seal"
)

// roomy are the changes with room behind the list and behind each value, in
// which something stands.
func roomy(l []api.Change) []api.Change {
	all := append(slices.Clone(l), gone(node(77)), set(entry(77, "room"), 3))
	for i := range all {
		if all[i].Value == nil {
			continue
		}
		b := append(bytes.Clone(all[i].Value), "room"...)
		all[i].Value = b[:len(all[i].Value)]
	}
	return all[:len(l)]
}

// whole tells all that changes reach, the room behind the lists, too.
func whole(l []api.Change) string {
	s := fmt.Sprint(len(l), "\n")
	for _, c := range l[:cap(l)] {
		s += fmt.Sprintf("%#v %d %v %x %v\n", c.Key, len(c.Value), c.Value == nil, c.Value[:cap(c.Value)], c.Gone)
	}
	return s
}

// spoil writes over all that changes reach.
func spoil(l []api.Change) {
	all := l[:cap(l)]
	for i := range all {
		spoilBytes(all[i].Value)
		all[i] = gone(node(-9))
	}
}

func spoilBytes(b []byte) {
	b = b[:cap(b)]
	for i := range b {
		b[i] ^= 0xff
	}
}

// handedIn are lists of all kinds, such that Put refuses, too.
func handedIn() [][]api.Change {
	l := append(someLists(), nil, []api.Change{}, many(255), many(256), changes(set(node(1), 255)))
	for _, c := range badValues() {
		l = append(l, changes(c), changes(set(node(1), 2), c))
	}
	for _, k := range badKeys {
		l = append(l, changes(set(node(1), 2), set(k, 2)))
	}
	return l
}

// What is handed in stays as it is, the room behind it too.
func TestHandedInStays(t *testing.T) {
	for _, l := range handedIn() {
		l = roomy(l)
		was := whole(l)
		for _, size := range []int{127, 128, 256} {
			rec.Put(size, l)
		}
		rec.Length(l)
		if whole(l) != was {
			t.Errorf("the changes were\n%s\nand are\n%s", was, whole(l))
		}
	}
	for _, l := range someLists() {
		body := plainBody(l)
		for n := range len(body) + 1 {
			all := append(slices.Clone(body), "room behind"...)
			was := slices.Clone(all)
			rec.Get(all[:n])
			rec.GetDrop(all[:n])
			if !bytes.Equal(all, was) {
				t.Fatalf("the body was %x and is %x", was, all)
			}
		}
	}
}

// What is answered shares memory with nothing else: not with what was handed in,
// not with another answer.
func TestPagesAreNewMemory(t *testing.T) {
	for _, l := range someLists() {
		l = roomy(l)
		was := whole(l)
		first, _ := rec.Put(256, l)
		second, _ := rec.Put(256, l)
		want := slices.Clone(second)
		spoilBytes(first)
		if whole(l) != was {
			t.Error("a page shares memory with the changes")
		}
		spoil(l)
		if !bytes.Equal(second, want) {
			t.Error("a page shares memory with another one, or with the changes")
		}
	}
	first, _ := rec.PutDrop(128, 5)
	second, _ := rec.PutDrop(128, 5)
	want := slices.Clone(second)
	spoilBytes(first)
	if third, _ := rec.PutDrop(128, 5); !bytes.Equal(second, want) || !bytes.Equal(third, want) {
		t.Error("pages of a drop share memory")
	}
}

func TestChangesAreNewMemory(t *testing.T) {
	for _, l := range someLists() {
		body := plainBody(l)
		was := slices.Clone(body)
		first, _ := rec.Get(body)
		second, _ := rec.Get(body)
		spoil(first)
		if !bytes.Equal(body, was) {
			t.Error("changes share memory with the body")
		}
		spoilBytes(body)
		if text(second) != text(l) {
			t.Errorf("changes share memory with others, or with the body: %s; want %s", text(second), text(l))
		}
	}
}

// No two lists of one answer share memory, be it the room behind them.
func TestValuesAreTheirOwn(t *testing.T) {
	l := changes(set(node(1), 3), set(node(1), 3), set(entry(5, "ab"), 1), set(piece(7, 7), 30))
	for i := range l {
		got, _ := rec.Get(plainBody(l))
		spoilBytes(got[i].Value)
		got[i].Value = l[i].Value
		if text(got) != text(l) {
			t.Errorf("the value %d shares memory with another one: %s", i, text(got))
		}
	}
	for i := range l {
		got, _ := rec.Get(plainBody(l))
		got[i].Value = append(got[i].Value, "behind all that there is of it"...)
		got[i].Value = l[i].Value
		if text(got) != text(l) {
			t.Errorf("the room behind the value %d is another's: %s", i, text(got))
		}
	}
}

// Lists that are nil and lists without elements are the same.
func TestNilAndEmpty(t *testing.T) {
	a, _ := rec.Put(128, changes(api.Change{Key: node(5), Gone: true}))
	b, _ := rec.Put(128, changes(api.Change{Key: node(5), Value: []byte{}, Gone: true}))
	if _, _, e := seal.Get(a); e != api.OK || !bytes.Equal(a, b) {
		t.Errorf("Put of nil %x, of none %x", a, b)
	}
	for _, l := range [][]api.Change{nil, {}} {
		wantNoPut(t, 128, l, api.ErrArg)
		wantLength(t, l, 0)
	}
	for _, body := range [][]byte{nil, {}} {
		wantNoGet(t, body, api.ErrShort)
		wantGetDrop(t, body, 0, api.ErrForm)
	}
}

// In what is answered a change that is Gone has no value, and no other field
// than its kind of key has.
func TestFieldsWithoutMeaning(t *testing.T) {
	got, e := rec.Get([]byte{3, 0, 5, 0, 1, 0, 5, 0, 2, 1, 'a', 1, 5, 0, 3, 7, 1, 9})
	want := changes(gone(node(5)), gone(entry(5, "a")), api.Change{Key: piece(5, 7), Value: []byte{9}})
	if e != api.OK || text(got) != text(want) {
		t.Errorf("Get = %s, %d; want %s", text(got), e, text(want))
	}
}

// What is answered once is answered again, whatever was asked in between.
func TestAnswersHangOnNothingElse(t *testing.T) {
	l := changes(set(node(1), 3), gone(piece(7, 7)))
	want, _ := rec.Put(200, l)
	for _, other := range handedIn() {
		rec.Put(128, other)
		rec.Length(other)
		rec.Get([]byte{1, 2, 5, 0, 1})
		rec.GetDrop([]byte{1})
		rec.PutDrop(128, 0)
		if got, e := rec.Put(200, l); !bytes.Equal(got, want) || e != api.OK {
			t.Fatalf("Put(200, %s) = %x, %d; want %x", text(l), got, e, want)
		}
		wantGet(t, plainBody(l), l)
		wantGetDrop(t, dropBody(7), 7, api.OK)
		wantLength(t, l, len(plainBody(l)))
	}
}
