package ends_test

import (
	"bytes"
	"math"
	"testing"

	"carrack/api"
	"carrack/ends"
)

// sizes are all the sizes of numbers; noSizes are some that are none.
var (
	sizes   = []int{1, 2, 4, 8}
	noSizes = []int{math.MinInt, -8, -4, -2, -1, 0, 3, 5, 6, 7, 9, 16, 64, 256 + 1, 1<<32 + 1, math.MaxInt}
)

// greatest is the greatest number of a size.
func greatest(size int) uint64 { return math.MaxUint64 >> (64 - 8*size) }

// counting answers n bytes, no two neighbours of which are the same.
func counting(n int) []byte {
	b := make([]byte, n)
	for i := range b {
		b[i] = byte(7*i + 3)
	}
	return b
}

func wantTake(t *testing.T, r *ends.Reader, size int, n uint64, e api.Errno) {
	t.Helper()
	if gotN, gotE := r.Take(size); gotN != n || gotE != e {
		t.Errorf("Take(%d) = %#x, %d; want %#x, %d", size, gotN, gotE, n, e)
	}
}

func wantRow(t *testing.T, r *ends.Reader, b []byte, e api.Errno) {
	t.Helper()
	if gotB, gotE := r.Row(); !bytes.Equal(gotB, b) || gotE != e {
		t.Errorf("Row() = %x, %d; want %x, %d", gotB, gotE, b, e)
	}
}

func wantLeft(t *testing.T, r *ends.Reader, n int) {
	t.Helper()
	if got := r.Left(); got != n {
		t.Errorf("Left() = %d; want %d", got, n)
	}
}

// wantRefusing: the reader refuses all that follows, whatever is asked of it.
func wantRefusing(t *testing.T, r *ends.Reader) {
	t.Helper()
	for range 2 {
		wantLeft(t, r, 0)
		for _, size := range sizes {
			wantTake(t, r, size, 0, api.ErrShort)
		}
		wantRow(t, r, nil, api.ErrShort)
		wantTake(t, r, 3, 0, api.ErrArg)
	}
	wantLeft(t, r, 0)
}

// The chapter's examples.

func TestExamples(t *testing.T) {
	wantPut(t, 258, 2, []byte{0x02, 0x01}, api.OK)
	wantPut(t, 256, 1, nil, api.ErrArg)
	wantPut(t, 1, 3, nil, api.ErrArg)
	if b, e := ends.Row([]byte{0x61, 0x62}); !bytes.Equal(b, []byte{0x02, 0x61, 0x62}) || e != api.OK {
		t.Errorf("Row = %x, %d", b, e)
	}
	r := ends.New([]byte{0x02, 0x01, 0x02, 0x61, 0x62})
	wantTake(t, r, 2, 258, api.OK)
	wantRow(t, r, []byte{0x61, 0x62}, api.OK)
	wantLeft(t, r, 0)
	wantTake(t, r, 1, 0, api.ErrShort)
	wantTake(t, r, 1, 0, api.ErrShort)
}

// P1.1: Put.

func wantPut(t *testing.T, n uint64, size int, b []byte, e api.Errno) {
	t.Helper()
	if gotB, gotE := ends.Put(n, size); !bytes.Equal(gotB, b) || gotE != e {
		t.Errorf("Put(%#x, %d) = %x, %d; want %x, %d", n, size, gotB, gotE, b, e)
	}
}

func TestPutLowestFirst(t *testing.T) {
	wantPut(t, 0x8a, 1, []byte{0x8a}, api.OK)
	wantPut(t, 0x8a01, 2, []byte{0x01, 0x8a}, api.OK)
	wantPut(t, 0x8a010203, 4, []byte{0x03, 0x02, 0x01, 0x8a}, api.OK)
	wantPut(t, 0x8a01020304050607, 8, []byte{0x07, 0x06, 0x05, 0x04, 0x03, 0x02, 0x01, 0x8a}, api.OK)
	wantPut(t, 0x8a, 8, []byte{0x8a, 0, 0, 0, 0, 0, 0, 0}, api.OK)
}

func TestPutEnds(t *testing.T) {
	for _, size := range sizes {
		wantPut(t, 0, size, make([]byte, size), api.OK)
		wantPut(t, 1, size, append([]byte{1}, make([]byte, size-1)...), api.OK)
		wantPut(t, greatest(size), size, bytes.Repeat([]byte{0xff}, size), api.OK)
		wantPut(t, greatest(size)-1, size, append([]byte{0xfe}, bytes.Repeat([]byte{0xff}, size-1)...), api.OK)
		if size < 8 {
			wantPut(t, greatest(size)+1, size, nil, api.ErrArg)
			wantPut(t, greatest(size)+2, size, nil, api.ErrArg)
			wantPut(t, math.MaxUint64, size, nil, api.ErrArg)
			wantPut(t, 1<<63, size, nil, api.ErrArg)
		}
	}
}

func TestPutEachBit(t *testing.T) {
	for bit := range 64 {
		for _, size := range sizes {
			if bit >= 8*size {
				wantPut(t, 1<<bit, size, nil, api.ErrArg)
				continue
			}
			b := make([]byte, size)
			b[bit/8] = 1 << (bit % 8)
			wantPut(t, 1<<bit, size, b, api.OK)
		}
	}
}

func TestPutSizeThatIsNone(t *testing.T) {
	for _, size := range noSizes {
		for _, n := range []uint64{0, 1, 255, 256, math.MaxUint64} {
			wantPut(t, n, size, nil, api.ErrArg)
		}
	}
}

func TestPutAnswersNewMemory(t *testing.T) {
	for _, size := range sizes {
		a, _ := ends.Put(1, size)
		b, _ := ends.Put(1, size)
		clear(a[:cap(a)])
		if b[0] != 1 {
			t.Errorf("size %d: two answers share memory", size)
		}
		wantPut(t, 1, size, b, api.OK)
	}
}

// P1.1: Row.

func TestRowOfEachLength(t *testing.T) {
	for n := range 256 {
		b := counting(n)
		row, e := ends.Row(b)
		if want := append([]byte{byte(n)}, b...); !bytes.Equal(row, want) || e != api.OK {
			t.Errorf("Row of %d bytes = %x, %d; want %x", n, row, e, want)
		}
	}
}

func TestRowOfNone(t *testing.T) {
	for _, b := range [][]byte{nil, {}, make([]byte, 0, 300)} {
		if row, e := ends.Row(b); !bytes.Equal(row, []byte{0}) || e != api.OK {
			t.Errorf("Row of none = %x, %d", row, e)
		}
	}
}

func TestRowAboveTheLimit(t *testing.T) {
	for _, n := range []int{256, 257, 511, 512, 1 << 16} {
		if row, e := ends.Row(counting(n)); len(row) != 0 || e != api.ErrLimit {
			t.Errorf("Row of %d bytes = %x, %d; want none, %d", n, row, e, api.ErrLimit)
		}
	}
}

func TestRowLeavesItsArgument(t *testing.T) {
	for _, n := range []int{0, 1, 2, 254, 255, 256} {
		whole := counting(n + 8)
		ends.Row(whole[:n])
		if !bytes.Equal(whole, counting(n+8)) {
			t.Errorf("Row of %d bytes changed them, or the room behind them", n)
		}
	}
}

func TestRowAnswersNewMemory(t *testing.T) {
	b := counting(5)
	first, _ := ends.Row(b)
	second, _ := ends.Row(b)
	clear(first[:cap(first)])
	if !bytes.Equal(b, counting(5)) {
		t.Error("the answer shares memory with the argument")
	}
	if !bytes.Equal(second[1:], b) {
		t.Error("two answers share memory")
	}
	clear(b)
	if !bytes.Equal(second[1:], counting(5)) {
		t.Error("the answer changes with the argument")
	}
}

// P1.2: Take.

func TestTakeLowestFirst(t *testing.T) {
	b := []byte{0x07, 0x06, 0x05, 0x04, 0x03, 0x02, 0x01, 0x8a}
	want := map[int]uint64{1: 0x07, 2: 0x0607, 4: 0x04050607, 8: 0x8a01020304050607}
	for _, size := range sizes {
		r := ends.New(b)
		wantLeft(t, r, 8)
		wantTake(t, r, size, want[size], api.OK)
		wantLeft(t, r, 8-size)
	}
}

func TestTakeEnds(t *testing.T) {
	for _, size := range sizes {
		for _, fill := range []byte{0x00, 0xff} {
			r := ends.New(bytes.Repeat([]byte{fill}, size))
			want := uint64(0)
			if fill == 0xff {
				want = greatest(size)
			}
			wantTake(t, r, size, want, api.OK)
			wantLeft(t, r, 0)
		}
	}
}

func TestTakeEachBit(t *testing.T) {
	for _, size := range sizes {
		for bit := range 8 * size {
			b := make([]byte, size)
			b[bit/8] = 1 << (bit % 8)
			wantTake(t, ends.New(b), size, 1<<bit, api.OK)
		}
	}
}

func TestTakeOneBehindTheOther(t *testing.T) {
	r := ends.New([]byte{1, 2, 0, 3, 0, 0, 0, 4, 0, 0, 0, 0, 0, 0, 0, 9})
	left := 16
	for i, size := range sizes {
		wantTake(t, r, size, uint64(i+1), api.OK)
		left -= size
		wantLeft(t, r, left)
	}
	wantTake(t, r, 1, 9, api.OK)
	wantLeft(t, r, 0)
	wantRefusing(t, r)
}

func TestTakeShort(t *testing.T) {
	for _, size := range sizes {
		for left := range size {
			r := ends.New(counting(left))
			wantLeft(t, r, left)
			wantTake(t, r, size, 0, api.ErrShort)
			wantRefusing(t, r)

			r = ends.New(counting(8 + left))
			r.Take(8)
			wantLeft(t, r, left)
			wantTake(t, r, size, 0, api.ErrShort)
			wantRefusing(t, r)
		}
	}
}

// A refusal takes with it what stood there still, a row without bytes too.
func TestRefusalLosesWhatWasLeft(t *testing.T) {
	r := ends.New([]byte{0, 0, 0})
	wantTake(t, r, 4, 0, api.ErrShort)
	wantRow(t, r, nil, api.ErrShort)
	wantTake(t, r, 1, 0, api.ErrShort)
	wantTake(t, r, 2, 0, api.ErrShort)
	wantRefusing(t, r)
}

func TestSizeThatIsNoneChangesNothing(t *testing.T) {
	b := []byte{5, 2, 1, 2, 'a', 'b'}
	r := ends.New(b)
	ask := func(left int) {
		t.Helper()
		for _, size := range noSizes {
			wantTake(t, r, size, 0, api.ErrArg)
			wantLeft(t, r, left)
		}
	}
	ask(6)
	wantTake(t, r, 1, 5, api.OK)
	ask(5)
	wantTake(t, r, 2, 258, api.OK)
	ask(3)
	wantRow(t, r, []byte("ab"), api.OK)
	ask(0)
	wantRefusing(t, r)
	ask(0)
	wantRefusing(t, r)
}

// P1.2: Row.

func TestRowOfAReader(t *testing.T) {
	for n := range 256 {
		b := counting(n)
		r := ends.New(append(append([]byte{byte(n)}, b...), 77))
		wantLeft(t, r, n+2)
		wantRow(t, r, b, api.OK)
		wantLeft(t, r, 1)
		wantTake(t, r, 1, 77, api.OK)
		wantLeft(t, r, 0)
	}
}

func TestRowOfNoneAtTheEnd(t *testing.T) {
	r := ends.New([]byte{0})
	wantRow(t, r, nil, api.OK)
	wantLeft(t, r, 0)
	wantRow(t, r, nil, api.ErrShort)
	wantRefusing(t, r)
}

func TestRowShort(t *testing.T) {
	none := ends.New(nil)
	wantRow(t, none, nil, api.ErrShort)
	wantRefusing(t, none)
	for _, n := range []int{1, 2, 3, 128, 254, 255} {
		for _, there := range []int{0, 1, n / 2, n - 1} {
			if there >= n {
				continue
			}
			r := ends.New(append([]byte{byte(n)}, make([]byte, there)...))
			wantLeft(t, r, 1+there)
			wantRow(t, r, nil, api.ErrShort)
			wantRefusing(t, r)
		}
	}
}

func TestRowTakesNoMoreThanItsLengthByte(t *testing.T) {
	b := append([]byte{0xff, 0x01}, make([]byte, 600)...)
	r := ends.New(b)
	wantRow(t, r, append([]byte{0x01}, make([]byte, 254)...), api.OK)
	wantLeft(t, r, 602-256)
}

// P1.2: New, Left.

func TestNewOfNoneIsAReader(t *testing.T) {
	for _, b := range [][]byte{nil, {}, make([]byte, 0, 16)} {
		r := ends.New(b)
		if r == nil {
			t.Fatal("New answered nil")
		}
		wantLeft(t, r, 0)
		wantTake(t, r, 3, 0, api.ErrArg)
		wantRefusing(t, r)
	}
}

func TestLeftChangesNothing(t *testing.T) {
	r := ends.New([]byte{4, 1, 8})
	for range 3 {
		wantLeft(t, r, 3)
	}
	wantTake(t, r, 1, 4, api.OK)
	for range 3 {
		wantLeft(t, r, 2)
	}
	wantRow(t, r, []byte{8}, api.OK)
}

// The rules: what is handed in, what is answered, and what is not there.

func TestReaderLeavesItsArgument(t *testing.T) {
	whole := []byte{1, 2, 'a', 'b', 9, 9, 9, 9}
	r := ends.New(whole[:5])
	wantLeft(t, r, 5)
	wantTake(t, r, 1, 1, api.OK)
	row, _ := r.Row()
	_ = append(row, 1, 2, 3, 4)
	wantTake(t, r, 2, 0, api.ErrShort)
	if !bytes.Equal(whole, []byte{1, 2, 'a', 'b', 9, 9, 9, 9}) {
		t.Errorf("the argument, or the room behind it, is %x now", whole)
	}
}

func TestReaderHasBytesOfItsOwn(t *testing.T) {
	b := []byte{1, 2, 'a', 'b', 3, 0}
	r := ends.New(b)
	b[0] = 99
	wantTake(t, r, 1, 1, api.OK)
	clear(b)
	wantRow(t, r, []byte("ab"), api.OK)
	for i := range b {
		b[i] = 0xff
	}
	wantTake(t, r, 2, 3, api.OK)
}

func TestReadersOfTheSameBytes(t *testing.T) {
	b := []byte{1, 'a', 7}
	one, other := ends.New(b), ends.New(b)
	row, _ := one.Row()
	row[0] = 'z'
	wantLeft(t, other, 3)
	wantRow(t, other, []byte("a"), api.OK)
	wantTake(t, one, 2, 0, api.ErrShort)
	wantTake(t, other, 1, 7, api.OK)
}

func TestRowsOfAReaderAreNewMemory(t *testing.T) {
	r := ends.New([]byte{2, 'a', 'b', 0, 2, 'c', 'd', 5})
	first, _ := r.Row()
	none, _ := r.Row()
	clear(first)
	_ = append(first, 1, 1, 1, 1, 1)
	_ = append(none, 1, 1, 1, 1, 1)
	second, e := r.Row()
	if string(second) != "cd" || e != api.OK {
		t.Errorf("Row = %q, %d: what was answered before reaches what was left", second, e)
	}
	_ = append(second, 1)
	wantTake(t, r, 1, 5, api.OK)
	if first[0] != 0 || first[1] != 0 {
		t.Errorf("a row answered before is %x now", first)
	}
}

func TestNoReader(t *testing.T) {
	for name, r := range map[string]*ends.Reader{"nil": nil, "zero": {}} {
		for range 2 {
			for _, size := range sizes {
				if n, e := r.Take(size); n != 0 || e != api.ErrNil {
					t.Errorf("%s: Take(%d) = %d, %d", name, size, n, e)
				}
			}
			for _, size := range noSizes {
				if n, e := r.Take(size); n != 0 || e != api.ErrNil {
					t.Errorf("%s: Take(%d) = %d, %d; ErrNil comes ahead of ErrArg", name, size, n, e)
				}
			}
			if b, e := r.Row(); len(b) != 0 || e != api.ErrNil {
				t.Errorf("%s: Row = %x, %d", name, b, e)
			}
			if n := r.Left(); n != 0 {
				t.Errorf("%s: Left = %d", name, n)
			}
		}
	}
}

// P1.3.

// item is a number of a size, or, of size 0, a row.
type item struct {
	size int
	n    uint64
	row  []byte
}

func putItems(t *testing.T, items []item) []byte {
	t.Helper()
	var all []byte
	for _, it := range items {
		b, e := ends.Put(it.n, it.size)
		if it.size == 0 {
			b, e = ends.Row(it.row)
		}
		if e != api.OK {
			t.Fatalf("%+v is refused: %d", it, e)
		}
		all = append(all, b...)
	}
	return all
}

func wantItems(t *testing.T, r *ends.Reader, items []item) {
	t.Helper()
	for _, it := range items {
		if it.size == 0 {
			wantRow(t, r, it.row, api.OK)
		} else {
			wantTake(t, r, it.size, it.n, api.OK)
		}
	}
}

func wantRoundTrip(t *testing.T, items []item) {
	t.Helper()
	r := ends.New(putItems(t, items))
	wantItems(t, r, items)
	wantLeft(t, r, 0)
	wantRefusing(t, r)
}

func edgeItems() []item {
	items := []item{{}, {row: []byte{0}}, {row: []byte("ab")}, {row: counting(254)}, {row: counting(255)}}
	for _, size := range sizes {
		items = append(items, item{size: size}, item{size: size, n: greatest(size)}, item{size: size, n: greatest(size)/3 + 1})
	}
	return items
}

func TestWhatIsPutIsTakenOff(t *testing.T) {
	edges := edgeItems()
	wantRoundTrip(t, nil)
	wantRoundTrip(t, edges)
	for _, a := range edges {
		wantRoundTrip(t, []item{a})
		for _, b := range edges {
			wantRoundTrip(t, []item{a, b})
			for _, c := range edges {
				wantRoundTrip(t, []item{a, b, c})
			}
		}
	}
}

func TestLongRunsAreTakenOff(t *testing.T) {
	state := uint64(1)
	next := func() uint64 {
		state = state*6364136223846793005 + 1442695040888963407
		return state ^ state>>29
	}
	for range 200 {
		var items []item
		for range next() % 40 {
			if pick := next() % 5; pick < 4 {
				size := sizes[pick]
				items = append(items, item{size: size, n: next() & greatest(size)})
			} else {
				items = append(items, item{row: counting(int(next() % 256))})
			}
		}
		wantRoundTrip(t, items)
	}
}

// One byte less than was put: all is taken off but the last item.
func TestOneByteLess(t *testing.T) {
	edges := edgeItems()
	for _, last := range edges {
		items := append(append([]item{}, edges...), last)
		b := putItems(t, items)
		r := ends.New(b[: len(b)-1 : len(b)-1])
		wantItems(t, r, edges)
		if last.size == 0 {
			wantRow(t, r, nil, api.ErrShort)
		} else {
			wantTake(t, r, last.size, 0, api.ErrShort)
		}
		wantRefusing(t, r)
	}
}
