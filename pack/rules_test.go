package pack_test

import (
	"bytes"
	"fmt"
	"slices"
	"testing"

	"carrack/api"
	"carrack/pack"
)

// roomy are the facts with room behind the list and behind each value, in which
// something stands.
func roomy(l []api.Fact) []api.Fact {
	all := append(slices.Clone(l), has(node(77), 3), has(entry(77, "room"), 3))
	for i := range all {
		if all[i].Value == nil {
			continue
		}
		b := append(bytes.Clone(all[i].Value), "room"...)
		all[i].Value = b[:len(all[i].Value)]
	}
	return all[:len(l)]
}

// whole tells all that facts reach, the room behind the lists, too.
func whole(l []api.Fact) string {
	s := fmt.Sprint(len(l), "\n")
	for _, f := range l[:cap(l)] {
		s += fmt.Sprintf("%#v %d %v %x\n", f.Key, len(f.Value), f.Value == nil, f.Value[:cap(f.Value)])
	}
	return s
}

// spoil writes over all that facts reach.
func spoil(l []api.Fact) {
	all := l[:cap(l)]
	for i := range all {
		spoilBytes(all[i].Value)
		all[i] = has(node(-9), 1)
	}
}

func spoilBytes(b []byte) {
	b = b[:cap(b)]
	for i := range b {
		b[i] ^= 0xff
	}
}

// goodLists are lists that have one page, or some.
func goodLists() [][]api.Fact {
	all := [][]api.Fact{
		nodesOf(4), nodesOf(56, 56), nodesOf(56, 57), nodesOf(1, 117, 1, 117, 1, 1), nodesOf(times(50, 4)...),
		nodesOf(times(7, 117)...), nodesOf(100, 100, 1, 100, 1, 1),
	}
	var mixed []api.Fact
	for i, k := range goodKeys {
		all = append(all, facts(has(k, 1)), facts(has(k, most(128, k))))
		mixed = append(mixed, has(k, 1+i*5))
	}
	return append(all, mixed)
}

// handedIn are lists of all kinds, such that are refused, too.
func handedIn() [][]api.Fact {
	l := append(goodLists(), nil, []api.Fact{}, nodesOf(255), nodesOf(1, 255, 1), nodesOf(256), nodesOf(0), nodesOf(1, 0))
	l = append(l, facts(api.Fact{Key: node(1)}), facts(has(node(2), 1), has(node(1), 1)), facts(has(node(1), 1), has(node(1), 2)))
	for _, k := range badKeys {
		l = append(l, facts(has(k, 2)), facts(has(node(1), 2), has(k, 2)))
	}
	return l
}

// What is handed in stays as it is, the room behind it too.
func TestHandedInStays(t *testing.T) {
	for _, l := range handedIn() {
		l = roomy(l)
		was := whole(l)
		for _, size := range []int{0, 127, 128, 200, 256} {
			pack.Pages(size, l)
			pack.Many(size, l)
		}
		for _, f := range l {
			pack.Cost(f)
		}
		if whole(l) != was {
			t.Errorf("the facts were\n%s\nand are\n%s", was, whole(l))
		}
	}
}

// A list that goes on behind what is handed in is not looked at there.
func TestRoomBehindIsNotLookedAt(t *testing.T) {
	for _, behind := range []api.Fact{has(node(3), 1), has(node(1), 1), has(node(0), 1), has(node(3), 0), has(node(3), 255)} {
		l := append(nodesOf(4, 90), behind)
		wantPages(t, 128, l[:2], 2)
		wantPages(t, 128, l[:0])
	}
}

// What is answered shares memory with nothing else: not with what was handed in,
// not with another answer.
func TestPagesAreNewMemory(t *testing.T) {
	for _, l := range goodLists() {
		l = roomy(l)
		was := whole(l)
		first, _ := pack.Pages(128, l)
		second, _ := pack.Pages(128, l)
		want := tell(second)
		for _, p := range first {
			spoilBytes(p)
		}
		clear(first[:cap(first)])
		if whole(l) != was {
			t.Error("a page shares memory with the facts")
		}
		spoil(l)
		if tell(second) != want {
			t.Error("a page shares memory with one of another answer, or with the facts")
		}
	}
}

// No two pages of one answer share memory, be it the room behind them.
func TestPagesAreTheirOwn(t *testing.T) {
	l := nodesOf(times(50, 30)...)
	want, _ := pack.Pages(128, l)
	for i := range want {
		got, _ := pack.Pages(128, l)
		spoilBytes(got[i])
		got[i] = want[i]
		if tell(got) != tell(want) {
			t.Errorf("the page %d shares memory with another one", i)
		}
		got, _ = pack.Pages(128, l)
		got[i] = append(got[i], "behind all that there is of it"...)
		got[i] = want[i]
		if tell(got) != tell(want) {
			t.Errorf("the room behind the page %d is another's", i)
		}
	}
}

// tell tells pages.
func tell(pages [][]byte) string {
	s := ""
	for _, p := range pages {
		s += fmt.Sprintf("%x\n", p)
	}
	return s
}

// Lists that are nil and lists without elements are the same.
func TestNilAndEmpty(t *testing.T) {
	for _, size := range []int{128, 200, 256} {
		wantPages(t, size, nil)
		wantPages(t, size, []api.Fact{})
		wantNone(t, size, facts(api.Fact{Key: node(1)}), api.ErrArg)
		wantNone(t, size, facts(api.Fact{Key: node(1), Value: []byte{}}), api.ErrArg)
	}
	for _, size := range noSizes {
		wantNone(t, size, nil, api.ErrArg)
		wantNone(t, size, []api.Fact{}, api.ErrArg)
	}
}

// What is answered once is answered again, whatever was asked in between.
func TestAnswersHangOnNothingElse(t *testing.T) {
	l := nodesOf(1, 117, 1, 117, 1, 1)
	want, _ := pack.Pages(128, l)
	for _, other := range handedIn() {
		for _, size := range []int{127, 128, 256} {
			pack.Pages(size, other)
			pack.Many(size, other)
		}
		for _, f := range other {
			pack.Cost(f)
		}
		got, e := pack.Pages(128, l)
		if tell(got) != tell(want) || e != api.OK {
			t.Fatalf("Pages(128, %s) = %s, %d; want %s", text(l), tell(got), e, tell(want))
		}
		wantPages(t, 128, l, 1, 1, 1, 1, 2)
		wantCost(t, l[1], 122)
	}
}
