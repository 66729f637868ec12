package rec_test

import (
	"bytes"
	"math/rand"
	"slices"
	"testing"

	"carrack/api"
	"carrack/rec"
	"carrack/seal"
)

// plainBody lays the body of changes that may be by hand.
func plainBody(l []api.Change) []byte {
	b := []byte{byte(len(l))}
	for _, c := range l {
		if c.Gone {
			b = append(b, 0)
		} else {
			b = append(b, 1)
		}
		b = append(b, byte(c.Key.Ino%256), byte(c.Key.Ino/256), c.Key.What)
		switch c.Key.What {
		case 2:
			b = append(append(b, byte(len(c.Key.Name))), c.Key.Name...)
		case 3:
			b = append(b, byte(c.Key.Chunk))
		}
		if !c.Gone {
			b = append(append(b, byte(len(c.Value))), c.Value...)
		}
	}
	return b
}

// plainName says whether a name may stand in a directory.
func plainName(s string) bool {
	if len(s) < 1 || len(s) > 12 || s == "." || s == ".." {
		return false
	}
	for _, x := range []byte(s) {
		if (x < 'a' || x > 'z') && (x < '0' || x > '9') && x != '.' && x != '-' {
			return false
		}
	}
	return true
}

// plainGet reads a body byte by byte.
func plainGet(b []byte) ([]api.Change, api.Errno) {
	at := 0
	left := func(n int) bool { return len(b)-at >= n }
	if !left(1) {
		return nil, api.ErrShort
	}
	n := int(b[0])
	if n == 0 {
		return nil, api.ErrForm
	}
	at = 1
	var l []api.Change
	for len(l) < n {
		if !left(1) {
			return nil, api.ErrShort
		}
		stand := b[at]
		if stand > 1 {
			return nil, api.ErrForm
		}
		at++
		if !left(3) {
			return nil, api.ErrShort
		}
		k := api.Key{Ino: int(b[at]) + 256*int(b[at+1]), What: b[at+2]}
		at += 3
		switch k.What {
		case 1:
		case 2:
			if !left(1) || !left(1+int(b[at])) {
				return nil, api.ErrShort
			}
			k.Name = string(b[at+1 : at+1+int(b[at])])
			at += 1 + len(k.Name)
			if !plainName(k.Name) {
				return nil, api.ErrForm
			}
		case 3:
			if !left(1) {
				return nil, api.ErrShort
			}
			k.Chunk = int(b[at])
			at++
			if k.Chunk > 7 {
				return nil, api.ErrForm
			}
		default:
			return nil, api.ErrForm
		}
		if k.Ino == 0 {
			return nil, api.ErrForm
		}
		c := api.Change{Key: k, Gone: stand == 0}
		if stand == 1 {
			if !left(1) {
				return nil, api.ErrShort
			}
			if b[at] == 0 {
				return nil, api.ErrForm
			}
			if !left(1 + int(b[at])) {
				return nil, api.ErrShort
			}
			c.Value = b[at+1 : at+1+int(b[at])]
			at += 1 + int(b[at])
		}
		l = append(l, c)
	}
	if at < len(b) {
		return nil, api.ErrForm
	}
	return l, api.OK
}

// wantAsPlain: Get answers what is read by hand, and a body that says a list is
// the one that Put makes of it, if a page has room for it.
func wantAsPlain(t *testing.T, body []byte) api.Errno {
	t.Helper()
	want, wantE := plainGet(body)
	l, e := rec.Get(body)
	if text(l) != text(want) || e != wantE {
		t.Fatalf("Get(%x) = %s, %d; want %s, %d", body, text(l), e, text(want), wantE)
	}
	if e != api.OK {
		return e
	}
	if n := rec.Length(l); n != len(body) {
		t.Errorf("Length(%s) = %d; want %d", text(l), n, len(body))
	}
	page, e := rec.Put(256, l)
	if len(body) > 251 {
		if e != api.ErrLimit {
			t.Errorf("Put(256, what %x says) = %d", body, e)
		}
		return api.OK
	}
	if _, got, _ := seal.Get(page); e != api.OK || !bytes.Equal(got, body) {
		t.Errorf("%x says what Put makes %x of, %d", body, got, e)
	}
	return api.OK
}

// Every body of up to 8 bytes that are each one of a few.
func TestGetAllShortBodies(t *testing.T) {
	few := []byte{0, 1, 2, 3, 'a'}
	met := map[api.Errno]int{}
	var all func(body []byte)
	all = func(body []byte) {
		met[wantAsPlain(t, body)]++
		if len(body) == 8 {
			return
		}
		for _, x := range few {
			all(append(slices.Clone(body), x))
		}
	}
	all(nil)
	for _, e := range []api.Errno{api.OK, api.ErrShort, api.ErrForm} {
		if met[e] == 0 {
			t.Errorf("no body was answered %d", e)
		}
	}
}

// Every body that differs from one of a list in one byte alone.
func TestGetOneByteElse(t *testing.T) {
	for _, l := range someLists() {
		body := plainBody(l)
		if len(body) > 60 {
			continue
		}
		for i := range body {
			for x := range 256 {
				other := slices.Clone(body)
				other[i] = byte(x)
				wantAsPlain(t, other)
			}
		}
	}
}

// randomKey is a key that may be; one in twenty may be none.
func randomKey(r *rand.Rand) api.Key {
	ino := []int{1, 2, 255, 256, 65535, 1 + r.Intn(65535)}[r.Intn(6)]
	if r.Intn(20) == 0 {
		return badKeys[r.Intn(len(badKeys))]
	}
	switch r.Intn(3) {
	case 0:
		return node(ino)
	case 1:
		return entry(ino, "abcdefghijkl"[:1+r.Intn(12)])
	}
	return piece(ino, r.Intn(8))
}

// randomChange is a change that may be; one in some may be none.
func randomChange(r *rand.Rand) api.Change {
	k := randomKey(r)
	if r.Intn(30) == 0 {
		return api.Change{Key: k, Value: counting(r.Intn(2) * 256), Gone: r.Intn(2) == 0}
	}
	if r.Intn(3) == 0 {
		return gone(k)
	}
	v := make([]byte, 1+r.Intn(1+r.Intn(255)))
	r.Read(v)
	return api.Change{Key: k, Value: v}
}

// plainMay says by hand whether changes may stand in a page.
func plainMay(l []api.Change) bool {
	for _, c := range l {
		if slices.Contains(badKeys, c.Key) {
			return false
		}
		if c.Gone != (len(c.Value) == 0) || len(c.Value) > 255 {
			return false
		}
	}
	return len(l) > 0 && len(l) <= 255
}

func TestPutAsPlain(t *testing.T) {
	r := rand.New(rand.NewSource(11))
	met := map[api.Errno]int{}
	for range 30000 {
		var l []api.Change
		for range r.Intn(1 + r.Intn(10)) {
			l = append(l, randomChange(r))
		}
		size := 120 + r.Intn(145)
		page, e := rec.Put(size, l)
		met[e]++
		if !plainMay(l) {
			if e != api.ErrArg || rec.Length(l) != 0 {
				t.Fatalf("Put(%d, %s) = %d, Length %d", size, text(l), e, rec.Length(l))
			}
			continue
		}
		body := plainBody(l)
		want, wantE := seal.Put(size, 2, body)
		if !bytes.Equal(page, want) || e != wantE || rec.Length(l) != len(body) {
			t.Fatalf("Put(%d, %s) = %x, %d, Length %d; want %x, %d, %d", size, text(l), page, e, rec.Length(l), want, wantE, len(body))
		}
		wantAsPlain(t, body)
		wantAsPlain(t, body[:r.Intn(len(body))])
		body[r.Intn(len(body))] ^= 1 << r.Intn(8)
		wantAsPlain(t, body)
	}
	for _, e := range []api.Errno{api.OK, api.ErrArg, api.ErrLimit} {
		if met[e] < 1000 {
			t.Errorf("only %d lists were answered %d", met[e], e)
		}
	}
}

// Whatever bytes there are, Get and GetDrop end, and answer nothing beside an
// error.
func TestAnyBytes(t *testing.T) {
	r := rand.New(rand.NewSource(12))
	for range 30000 {
		b := make([]byte, r.Intn(300))
		r.Read(b)
		if len(b) > 0 && r.Intn(2) == 0 {
			b[0] = 1
		}
		wantAsPlain(t, b)
		if len(b) != 8 {
			wantGetDrop(t, b, 0, api.ErrForm)
		}
	}
}
