package pack_test

import (
	"bytes"
	"math/rand"
	"slices"
	"testing"

	"carrack/api"
	"carrack/pack"
	"carrack/seal"
)

// plainBody lays the body of facts by hand.
func plainBody(l []api.Fact) []byte {
	b := []byte{byte(len(l))}
	for _, f := range l {
		b = append(b, 1, byte(f.Key.Ino%256), byte(f.Key.Ino/256), f.Key.What)
		switch f.Key.What {
		case 2:
			b = append(append(b, byte(len(f.Key.Name))), f.Key.Name...)
		case 3:
			b = append(b, byte(f.Key.Chunk))
		}
		b = append(append(b, byte(len(f.Value))), f.Value...)
	}
	return b
}

// plainBefore holds two keys against each other, field by field.
func plainBefore(a, b api.Key) bool {
	if a.Ino != b.Ino {
		return a.Ino < b.Ino
	}
	if a.What != b.What {
		return a.What < b.What
	}
	if a.Name != b.Name {
		return a.Name < b.Name
	}
	return a.Chunk < b.Chunk
}

// plainPages takes off the front of the facts as many as a body has room for, by
// laying it with one fact more, and one more, until it is too long.
func plainPages(size int, l []api.Fact) ([][]byte, api.Errno) {
	if size < 128 || size > 256 {
		return nil, api.ErrArg
	}
	for i, f := range l {
		if slices.Contains(badKeys, f.Key) || len(f.Value) == 0 || len(f.Value) > 255 {
			return nil, api.ErrArg
		}
		if i > 0 && !plainBefore(l[i-1].Key, f.Key) {
			return nil, api.ErrArg
		}
	}
	var pages [][]byte
	for len(l) > 0 {
		n := 0
		for n < len(l) && len(plainBody(l[:n+1])) <= size-5 {
			n++
		}
		if n == 0 {
			return nil, api.ErrLimit
		}
		page, _ := seal.Put(size, 2, plainBody(l[:n]))
		pages = append(pages, page)
		l = l[n:]
	}
	return pages, api.OK
}

func wantAsPlain(t *testing.T, size int, l []api.Fact) api.Errno {
	t.Helper()
	want, wantE := plainPages(size, l)
	pages, e := pack.Pages(size, l)
	if e != wantE || !slices.EqualFunc(pages, want, bytes.Equal) {
		t.Fatalf("Pages(%d, %s) = %x, %d; want %x, %d", size, text(l), pages, e, want, wantE)
	}
	if n, e := pack.Many(size, l); n != len(want) || e != wantE {
		t.Fatalf("Many(%d, %s) = %d, %d; want %d, %d", size, text(l), n, e, len(want), wantE)
	}
	if e == api.OK {
		wantWhatFollows(t, size, l, pages)
	}
	return e
}

// P13.3: what follows.

// wantWhatFollows: the pages say the facts, none is of no use, and none is cut
// ahead of a fact that fits into it.
func wantWhatFollows(t *testing.T, size int, l []api.Fact, pages [][]byte) {
	t.Helper()
	var all []api.Fact
	var each [][]api.Fact
	for _, p := range pages {
		each = append(each, said(t, size, p))
		all = append(all, each[len(each)-1]...)
	}
	if text(all) != text(l) {
		t.Fatalf("the pages of %d say %s; want %s", size, text(all), text(l))
	}
	if len(pages) > len(l) {
		t.Errorf("%d pages of %d facts", len(pages), len(l))
	}
	for i := 1; i < len(each); i++ {
		if more := plainBody(append(slices.Clone(each[i-1]), each[i][0])); len(more) <= size-5 {
			t.Errorf("the page %d of %d bytes has room for %#v: %d bytes", i-1, size, each[i][0].Key, len(more))
		}
	}
	wantFewest(t, size, l, len(pages))
}

// wantFewest: however else the facts are cut into pages, in order, there are no
// fewer of them.
func wantFewest(t *testing.T, size int, l []api.Fact, n int) {
	t.Helper()
	fewest := make([]int, len(l)+1)
	for to := 1; to <= len(l); to++ {
		fewest[to] = len(l) + 1
		taken := 1
		for from := to - 1; from >= 0; from-- {
			taken += ahead(l[from].Key) + len(l[from].Value)
			if taken > size-5 {
				break
			}
			fewest[to] = min(fewest[to], fewest[from]+1)
		}
	}
	if fewest[len(l)] != n {
		t.Errorf("%s has %d pages of %d bytes, and goes into %d", text(l), n, size, fewest[len(l)])
	}
}

// Facts behind others change no page ahead of the last one, and to what that
// says they only add.
func TestFactsBehindOthers(t *testing.T) {
	r := rand.New(rand.NewSource(131))
	for range 300 {
		size := goodSizes[r.Intn(len(goodSizes))]
		l := randomFacts(r, size, 60)
		all, e := pack.Pages(size, l)
		if e != api.OK {
			t.Fatalf("Pages(%d, %s): %d", size, text(l), e)
		}
		for n := range len(l) {
			some, e := pack.Pages(size, l[:n])
			if e != api.OK || len(some) > len(all) {
				t.Fatalf("Pages(%d, %s): %d pages, %d", size, text(l[:n]), len(some), e)
			}
			if n == 0 {
				continue
			}
			last := len(some) - 1
			if !slices.EqualFunc(some[:last], all[:last], bytes.Equal) {
				t.Fatalf("of %s the first %d have other pages ahead of the last one", text(l), n)
			}
			begun, whole := said(t, size, some[last]), said(t, size, all[last])
			if len(begun) > len(whole) || text(begun) != text(whole[:len(begun)]) {
				t.Fatalf("of the first %d the last page says %s, of all %s", n, text(begun), text(whole))
			}
		}
	}
}

// Every list of up to 6 facts that each have one of a few lengths: such as fill a
// page alone, halve it, and leave room for the shortest one or just none.
func TestAllShortLists(t *testing.T) {
	few := []int{1, 50, 56, 57, 111, 117}
	var all func(sizes []int)
	all = func(sizes []int) {
		wantAsPlain(t, 128, nodesOf(sizes...))
		if len(sizes) == 6 {
			return
		}
		for _, n := range few {
			all(append(slices.Clone(sizes), n))
		}
	}
	all(nil)
}

// randomKeys are n keys that may be, in order.
func randomKeys(r *rand.Rand, n int) []api.Key {
	met := map[api.Key]int{}
	for len(met) < n {
		ino := []int{1, 2, 255, 256, 65535, 1 + r.Intn(65535)}[r.Intn(6)]
		switch r.Intn(3) {
		case 0:
			met[node(ino)] = 1
		case 1:
			name := make([]byte, 1+r.Intn(12))
			for i := range name {
				name[i] = "abz09-"[r.Intn(6)]
			}
			met[entry(ino, string(name))] = 1
		default:
			met[piece(ino, r.Intn(8))] = 1
		}
	}
	var l []api.Key
	for k := range met {
		l = append(l, k)
	}
	slices.SortFunc(l, func(a, b api.Key) int {
		if plainBefore(a, b) {
			return -1
		}
		return 1
	})
	return l
}

// randomFacts are less than n facts, in order, each of which fits alone.
func randomFacts(r *rand.Rand, size, n int) []api.Fact {
	var l []api.Fact
	most := 1 + r.Intn(size)
	for _, k := range randomKeys(r, r.Intn(n)) {
		v := make([]byte, 1+r.Intn(min(most, size-6-ahead(k))))
		if r.Intn(10) == 0 {
			v = make([]byte, size-6-ahead(k))
		}
		r.Read(v)
		l = append(l, api.Fact{Key: k, Value: v})
	}
	return l
}

// spoilt makes one thing of the facts wrong, or too long.
func spoilt(r *rand.Rand, size int, l []api.Fact) []api.Fact {
	if len(l) == 0 {
		return l
	}
	i, j := r.Intn(len(l)), r.Intn(len(l))
	switch r.Intn(6) {
	case 0:
		l[i].Key = badKeys[r.Intn(len(badKeys))]
	case 1:
		l[i].Key = l[j].Key
	case 2:
		l[i], l[j] = l[j], l[i]
	case 3:
		l[i].Value = counting(badLengths[r.Intn(len(badLengths))])
	case 4, 5:
		l[i].Value = counting(size - 6 - ahead(l[i].Key) + 1)
	}
	return l
}

func TestAsPlain(t *testing.T) {
	r := rand.New(rand.NewSource(13))
	met := map[api.Errno]int{}
	for range 6000 {
		size := 128 + r.Intn(129)
		l := randomFacts(r, size, 80)
		for range r.Intn(3) {
			l = spoilt(r, size, l)
		}
		if r.Intn(20) == 0 {
			size = noSizes[r.Intn(len(noSizes))]
		}
		met[wantAsPlain(t, size, l)]++
	}
	for _, e := range []api.Errno{api.OK, api.ErrArg, api.ErrLimit} {
		if met[e] < 500 {
			t.Errorf("only %d lists were answered %d", met[e], e)
		}
	}
}

// Many facts, which fill pages of each size to all lengths.
func TestLongLists(t *testing.T) {
	r := rand.New(rand.NewSource(132))
	for size := 128; size <= 256; size++ {
		if e := wantAsPlain(t, size, randomFacts(r, size, 400)); e != api.OK {
			t.Errorf("size %d: %d", size, e)
		}
	}
}
