package room_test

import (
	"math"
	"testing"

	"carrack/api"
	"carrack/room"
)

// geo answers a geometry whose pages are as small as may be.
func geo(blocks, pages, spares int) api.Geo {
	return api.Geo{Blocks: blocks, Pages: pages, Size: 128, Spares: spares}
}

// notWithin are geometries one of whose numbers, or more, may not be.
func notWithin() []api.Geo {
	l := []api.Geo{{}}
	for _, n := range []int{math.MinInt, math.MinInt + 1, math.MinInt32, -1 << 20, -16, -1, 1 << 16, math.MaxInt32, math.MaxInt - 1, math.MaxInt} {
		l = append(l,
			api.Geo{Blocks: n, Pages: 8, Size: 128}, api.Geo{Blocks: 16, Pages: n, Size: 128},
			api.Geo{Blocks: 16, Pages: 8, Size: n}, api.Geo{Blocks: 16, Pages: 8, Size: 128, Spares: n},
			api.Geo{Blocks: n, Pages: n, Size: n, Spares: n}, api.Geo{Blocks: n, Pages: -n, Size: 128, Spares: n},
		)
	}
	for _, n := range []int{0, 1, 7, 65} {
		l = append(l, geo(n, 8, 0), geo(n, 32, 0))
	}
	for _, n := range []int{0, 1, 2, 3, 33} {
		l = append(l, geo(16, n, 0), geo(64, n, 0))
	}
	for _, n := range []int{0, 1, 72, 127, 257} {
		l = append(l, api.Geo{Blocks: 16, Pages: 8, Size: n}, api.Geo{Blocks: 64, Pages: 32, Size: n, Spares: 4})
	}
	return append(l, geo(16, 8, 5), geo(64, 32, 5), geo(64, 32, -1), geo(7, 3, 5), geo(65, 33, -1))
}

// forCapAlone are geometries whose numbers are within their bounds, and whose Cap
// is too small.
func forCapAlone() map[api.Geo]int {
	return map[api.Geo]int{
		geo(8, 4, 0): 0, geo(8, 4, 4): 0, geo(8, 32, 4): 0, geo(9, 7, 0): 2, geo(11, 4, 0): 1,
		geo(12, 8, 2): 2, geo(14, 8, 3): 2, geo(15, 4, 0): 3, geo(16, 4, 0): 3, geo(23, 4, 4): 3,
	}
}

func wantMay(t *testing.T, g api.Geo, ok bool) {
	t.Helper()
	if got := room.May(g); got != ok {
		t.Errorf("May(%+v) = %v; want %v", g, got, ok)
	}
}

func wantPiece(t *testing.T, size, n int) {
	t.Helper()
	if got := room.Piece(size); got != n {
		t.Errorf("Piece(%d) = %d; want %d", size, got, n)
	}
}

func wantWant(t *testing.T, g api.Geo, facts, n int) {
	t.Helper()
	if got := room.Want(g, facts); got != n {
		t.Errorf("Want(%+v, %d) = %d; want %d", g, facts, got, n)
	}
}

func wantCap(t *testing.T, g api.Geo, n int) {
	t.Helper()
	if got := room.Cap(g); got != n {
		t.Errorf("Cap(%+v) = %d; want %d", g, got, n)
	}
}

func wantTurn(t *testing.T, g api.Geo, facts int, ok bool) {
	t.Helper()
	if got := room.Turn(g, facts); got != ok {
		t.Errorf("Turn(%+v, %d) = %v; want %v", g, facts, got, ok)
	}
}

// The chapter's examples, and the whole's seventh.

func TestExamples(t *testing.T) {
	wantWant(t, geo(16, 8, 0), 5, 11)
	wantCap(t, geo(16, 8, 2), 6)
	wantMay(t, geo(8, 4, 4), false)
	wantPiece(t, 128, 72)
	wantTurn(t, geo(16, 8, 0), 1, true)
	wantTurn(t, geo(16, 8, 0), 3, false)
}

func TestMayAtTheBounds(t *testing.T) {
	for _, g := range []api.Geo{geo(16, 8, 2), geo(64, 32, 4), {Blocks: 64, Pages: 32, Size: 256, Spares: 4}} {
		wantMay(t, g, true)
	}
	for _, b := range []struct {
		outside, within, beyond int
		of                      func(n int) api.Geo
	}{
		{7, 8, 9, func(n int) api.Geo { return geo(n, 32, 0) }},
		{65, 64, 63, func(n int) api.Geo { return geo(n, 32, 4) }},
		{3, 4, 5, func(n int) api.Geo { return geo(64, n, 4) }},
		{33, 32, 31, func(n int) api.Geo { return geo(64, n, 4) }},
		{127, 128, 129, func(n int) api.Geo { return api.Geo{Blocks: 16, Pages: 8, Size: n, Spares: 2} }},
		{257, 256, 255, func(n int) api.Geo { return api.Geo{Blocks: 16, Pages: 8, Size: n, Spares: 2} }},
		{-1, 0, 1, func(n int) api.Geo { return geo(64, 32, n) }},
		{5, 4, 3, func(n int) api.Geo { return geo(64, 32, n) }},
	} {
		wantMay(t, b.of(b.outside), false)
		wantMay(t, b.of(b.within), true)
		wantMay(t, b.of(b.beyond), true)
	}
	for _, g := range notWithin() {
		wantMay(t, g, false)
	}
}

func TestMayForCap(t *testing.T) {
	for g := range forCapAlone() {
		wantMay(t, g, false)
	}
	// Of the first of each two Cap is just 4, of the second it is 3.
	for _, two := range [][2]api.Geo{
		{geo(18, 4, 0), geo(17, 4, 0)}, {geo(24, 4, 3), geo(23, 4, 3)}, {geo(26, 4, 4), geo(25, 4, 4)},
		{geo(18, 8, 4), geo(17, 8, 4)}, {geo(16, 8, 3), geo(15, 8, 3)}, {geo(9, 9, 0), geo(9, 8, 0)},
		{geo(8, 11, 0), geo(8, 10, 0)}, {geo(11, 15, 2), geo(11, 12, 2)},
	} {
		wantCap(t, two[0], 4)
		wantMay(t, two[0], true)
		wantCap(t, two[1], 3)
		wantMay(t, two[1], false)
	}
}

func TestPiece(t *testing.T) {
	for size := -300; size < 1000; size++ {
		n := 0
		if size >= 128 && size <= 256 {
			n = size - 56
		}
		wantPiece(t, size, n)
	}
	wantPiece(t, 129, 73)
	wantPiece(t, 255, 199)
	wantPiece(t, 256, 200)
	for _, size := range []int{math.MinInt, math.MinInt + 1, math.MinInt + 56, math.MinInt + 57, -1 << 32, 1 << 32, 1<<32 + 128, math.MaxInt - 1, math.MaxInt} {
		wantPiece(t, size, 0)
	}
}

func TestWantRoundsUp(t *testing.T) {
	for _, c := range []struct {
		g        api.Geo
		facts, n int
	}{
		{geo(16, 8, 0), 0, 2 + 4}, {geo(16, 8, 0), 1, 3 + 4}, {geo(16, 8, 0), 5, 7 + 4},
		// The pages are just those of so many blocks, or one is left over.
		{geo(16, 8, 0), 6, 8 + 4}, {geo(16, 8, 0), 7, 10 + 4}, {geo(16, 8, 0), 13, 16 + 4}, {geo(16, 8, 0), 14, 18 + 4},
		// Of blocks that hold 8 pages nothing is rounded, of blocks that hold 3 there is 1 left over, or 2, or none.
		{geo(16, 9, 0), 0, 1 + 4}, {geo(16, 9, 0), 1, 2 + 4}, {geo(16, 9, 0), 77, 78 + 4},
		{geo(16, 4, 0), 0, 3 + 4}, {geo(16, 4, 0), 1, 6 + 4}, {geo(16, 4, 0), 2, 8 + 4}, {geo(16, 4, 0), 3, 11 + 4},
		// Of blocks that hold 31 pages there is 1 left over, or 30, or none.
		{geo(16, 32, 0), 0, 1 + 4}, {geo(16, 32, 0), 2, 1 + 4}, {geo(16, 32, 0), 3, 2 + 4}, {geo(16, 32, 0), 26, 7 + 4},
		{geo(16, 32, 0), 30, 8 + 4}, {geo(16, 32, 0), 31, 9 + 4}, {geo(16, 32, 0), 61, 16 + 4}, {geo(16, 32, 0), 34, 10 + 4},
		{geo(16, 8, 1), 5, 7 + 4 + 1}, {geo(16, 8, 4), 5, 7 + 4 + 4}, {geo(64, 8, 4), 5, 7 + 4 + 4}, {geo(8, 8, 4), 5, 7 + 4 + 4},
	} {
		wantWant(t, c.g, c.facts, c.n)
		c.g.Size = 256
		wantWant(t, c.g, c.facts, c.n)
	}
}

func TestWantOfManyFacts(t *testing.T) {
	for _, c := range []struct {
		g api.Geo
		// of one fact less than 2^20, and of 2^20
		less, most int
	}{
		{geo(16, 4, 0), 2796203 + 4, 2796206 + 4},
		{geo(16, 8, 0), 1198373 + 4, 1198374 + 4},
		{geo(16, 9, 2), 1048576 + 4 + 2, 1048577 + 4 + 2},
		{geo(64, 32, 4), 270601 + 4 + 4, 270601 + 4 + 4},
	} {
		wantWant(t, c.g, 1<<20-1, c.less)
		wantWant(t, c.g, 1<<20, c.most)
		for _, facts := range []int{1<<20 + 1, 1<<20 + 2, 1<<20 + 100, 1 << 21, 1 << 31, 1 << 60, 1<<61 - 1, 1 << 61, 1<<61 + 1, math.MaxInt / 8, math.MaxInt - 1, math.MaxInt} {
			wantWant(t, c.g, facts, c.most)
		}
	}
}

func TestWantOfWhatMayNotBe(t *testing.T) {
	below := []int{-1, -2, -7, -8, -9, -1 << 20, -1<<20 - 1, -1 << 60, -1 << 61, math.MinInt / 8, math.MinInt + 1, math.MinInt}
	for _, facts := range below {
		wantWant(t, geo(16, 8, 0), facts, 0)
		wantWant(t, geo(64, 32, 4), facts, 0)
		wantWant(t, geo(8, 4, 4), facts, 0)
	}
	for _, g := range notWithin() {
		for _, facts := range append(below, 0, 1, 5, 1<<20, 1<<20+1, math.MaxInt) {
			wantWant(t, g, facts, 0)
		}
	}
	// What may not be for its Cap alone has a Want all the same.
	wantWant(t, geo(8, 4, 4), 0, 3+4+4)
	wantWant(t, geo(8, 4, 4), 1, 6+4+4)
	wantWant(t, geo(12, 8, 2), 2, 4+4+2)
	wantWant(t, geo(12, 8, 2), 1<<20, 1198374+4+2)
}

func TestCap(t *testing.T) {
	for _, c := range []struct {
		g api.Geo
		n int
	}{
		{geo(16, 8, 0), 9}, {geo(16, 8, 1), 7}, {geo(16, 8, 2), 6}, {geo(16, 8, 3), 4}, {geo(16, 8, 4), 2},
		{geo(64, 32, 0), 231}, {geo(64, 32, 4), 200}, {geo(64, 4, 0), 21}, {geo(64, 4, 4), 18}, {geo(8, 32, 0), 14},
	} {
		wantCap(t, c.g, c.n)
		c.g.Size = 200
		wantCap(t, c.g, c.n)
	}
	for g, n := range forCapAlone() {
		wantCap(t, g, n)
	}
	for _, g := range notWithin() {
		wantCap(t, g, 0)
	}
}

// Where a store of no facts asks for more blocks than are usable there is no
// such number; where it does not there is one, which may be 0 as well.
func TestCapWhereThereIsNone(t *testing.T) {
	for _, c := range []struct {
		g    api.Geo
		none bool
	}{
		{geo(8, 8, 2), true}, {geo(8, 4, 1), true}, {geo(10, 4, 2), true}, {geo(8, 4, 4), true}, {geo(8, 32, 4), true},
		{geo(9, 4, 1), false}, {geo(8, 5, 1), false}, {geo(15, 4, 4), false}, {geo(8, 4, 0), false}, {geo(17, 4, 4), false},
	} {
		if n := room.Want(c.g, 0); n > c.g.Blocks-c.g.Spares != c.none {
			t.Errorf("Want(%+v, 0) = %d", c.g, n)
		}
		wantCap(t, c.g, 0)
		wantTurn(t, c.g, 0, false)
	}
}

func TestTurn(t *testing.T) {
	for _, c := range []struct {
		g    api.Geo
		most int
	}{
		{geo(16, 8, 0), 1}, {geo(15, 8, 0), 0}, {geo(18, 8, 0), 2}, {geo(64, 8, 0), 22}, {geo(64, 8, 4), 17}, {geo(14, 8, 0), 0},
		{geo(64, 32, 0), 103}, {geo(64, 32, 4), 80}, {geo(64, 32, 1), 95}, {geo(18, 4, 0), 0},
	} {
		for facts := range c.most + 300 {
			wantTurn(t, c.g, facts, facts <= c.most)
		}
		c.g.Size = 256
		wantTurn(t, c.g, c.most, true)
		wantTurn(t, c.g, c.most+1, false)
		for _, facts := range []int{-1, -2, -1 << 20, -1 << 61, math.MinInt + 1, math.MinInt, 1<<20 - 1, 1 << 20, 1<<20 + 1, 1 << 60, 1 << 61, 1<<61 + 1, math.MaxInt - 1, math.MaxInt} {
			wantTurn(t, c.g, facts, false)
		}
	}
	// Of these there is no number that may be turned.
	for _, g := range []api.Geo{geo(13, 8, 0), geo(16, 8, 2), geo(9, 9, 0), geo(24, 4, 3), geo(26, 4, 4)} {
		wantMay(t, g, true)
		for facts := -1; facts < 300; facts++ {
			wantTurn(t, g, facts, false)
		}
	}
}

func TestTurnOfWhatMayNotBe(t *testing.T) {
	for _, g := range notWithin() {
		for _, facts := range []int{math.MinInt, -1, 0, 1, 2, 1 << 20, math.MaxInt} {
			wantTurn(t, g, facts, false)
		}
	}
	// What may not be for its Cap alone is turned as the words say.
	wantTurn(t, geo(16, 4, 0), 0, true)
	wantTurn(t, geo(16, 4, 0), 1, false)
	wantTurn(t, geo(15, 4, 0), 0, false)
	wantTurn(t, geo(19, 4, 1), 0, true)
	wantTurn(t, geo(19, 4, 1), -1, false)
}
