package room_test

import (
	"math"
	"testing"

	"carrack/api"
	"carrack/room"
)

// manyFacts is more than any of the geometries has room for.
const manyFacts = 300

// plainIs says whether the numbers may be, but for Cap.
func plainIs(g api.Geo) bool {
	return g.Blocks >= 8 && g.Blocks <= 64 && g.Pages >= 4 && g.Pages <= 32 &&
		g.Size >= 128 && g.Size <= 256 && g.Spares >= 0 && g.Spares <= 4
}

// plainWants are Want of 0 facts, of 1, of 2 and so on up to manyFacts, told by
// putting pages into blocks one by one.
func plainWants(g api.Geo) []int {
	l := make([]int, manyFacts+1)
	if !plainIs(g) {
		return l
	}
	blocks, left := 0, 0
	for page := range 8 * (manyFacts + 1) {
		if left == 0 {
			blocks, left = blocks+1, g.Pages-1
		}
		left--
		l[page/8] = blocks + 4 + g.Spares
	}
	return l
}

// plainCap is Cap, told by trying all numbers.
func plainCap(g api.Geo, wants []int) int {
	most := 0
	for facts, n := range wants {
		if plainIs(g) && n <= g.Blocks-g.Spares {
			most = facts
		}
	}
	return most
}

// plainTurn is Turn of no more than manyFacts.
func plainTurn(g api.Geo, wants []int, facts int) bool {
	return plainIs(g) && facts >= 0 && wants[facts]+wants[facts]+2 <= g.Blocks-g.Spares
}

// each goes through all geometries within the bounds, and those just outside one
// or more of them, whose pages are of some sizes.
func each(do func(g api.Geo)) {
	for blocks := 7; blocks <= 65; blocks++ {
		for pages := 3; pages <= 33; pages++ {
			for spares := -1; spares <= 5; spares++ {
				do(api.Geo{Blocks: blocks, Pages: pages, Size: 128 + (blocks+pages)%129, Spares: spares})
			}
		}
	}
}

// eachThatMayBe goes through all geometries that may be, whose pages are of some
// sizes.
func eachThatMayBe(do func(g api.Geo)) {
	each(func(g api.Geo) {
		if room.May(g) {
			do(g)
		}
	})
}

// edges are numbers of facts about Cap, and others.
func edges(most int) []int {
	return []int{-2, -1, 0, 1, 2, 3, 4, most / 2, most, most + 1, most + 2, manyFacts}
}

// All of what is told is held against the words, number by number.
func TestAllAsTheWordsSay(t *testing.T) {
	each(func(g api.Geo) {
		wants := plainWants(g)
		most := plainCap(g, wants)
		wantCap(t, g, most)
		wantMay(t, g, plainIs(g) && most >= 4)
		for facts, n := range wants {
			wantWant(t, g, facts, n)
			wantTurn(t, g, facts, plainTurn(g, wants, facts))
		}
		for _, facts := range []int{-1, -2, -1 << 30} {
			wantWant(t, g, facts, 0)
			wantTurn(t, g, facts, false)
		}
	})
}

// Of no size within the bounds is anything told otherwise than of another one,
// and of one outside nothing.
func TestSizes(t *testing.T) {
	for _, g := range []api.Geo{geo(16, 8, 0), geo(64, 32, 4), geo(8, 4, 4), geo(16, 4, 0), geo(18, 4, 0)} {
		may, most := room.May(g), room.Cap(g)
		for size := 100; size < 300; size++ {
			h := g
			h.Size = size
			if !plainIs(h) {
				wantMay(t, h, false)
				wantCap(t, h, 0)
				wantWant(t, h, 1, 0)
				wantTurn(t, h, 0, false)
				continue
			}
			wantMay(t, h, may)
			wantCap(t, h, most)
			for _, facts := range edges(most) {
				wantWant(t, h, facts, room.Want(g, facts))
				wantTurn(t, h, facts, room.Turn(g, facts))
			}
		}
	}
}

func TestWantRisesWithFacts(t *testing.T) {
	rising := []int{math.MinInt, -1 << 61, -1 << 20, -2, -1}
	for facts := range manyFacts {
		rising = append(rising, facts)
	}
	rising = append(rising, 1<<20-2, 1<<20-1, 1<<20, 1<<20+1, 1<<30, 1<<60, 1<<61, math.MaxInt-1, math.MaxInt)
	eachThatMayBe(func(g api.Geo) {
		last := 0
		for _, facts := range rising {
			n := room.Want(g, facts)
			if n < last {
				t.Fatalf("Want(%+v, %d) = %d; of less facts %d", g, facts, n, last)
			}
			last = n
		}
		if room.Want(g, 1<<20) <= room.Want(g, manyFacts) {
			t.Fatalf("Want(%+v, ..) does not rise", g)
		}
	})
}

func TestMoreBlocksNoLessCap(t *testing.T) {
	eachThatMayBe(func(g api.Geo) {
		most := room.Cap(g)
		if most < 4 {
			t.Fatalf("Cap(%+v) = %d", g, most)
		}
		for h := g; h.Blocks < 64; {
			h.Blocks++
			n := room.Cap(h)
			if n < most || !room.May(h) {
				t.Fatalf("Cap(%+v) = %d; of less blocks %d", h, n, most)
			}
			most = n
		}
	})
}

func TestTurnedIsAtMostCap(t *testing.T) {
	some := 0
	eachThatMayBe(func(g api.Geo) {
		most := room.Cap(g)
		for _, facts := range edges(most) {
			if !room.Turn(g, facts) {
				continue
			}
			some++
			if facts > most || facts < 0 {
				t.Fatalf("Turn(%+v, %d), where Cap is %d", g, facts, most)
			}
		}
		if room.Want(g, most) > g.Blocks-g.Spares || room.Want(g, most+1) <= g.Blocks-g.Spares {
			t.Fatalf("Cap(%+v) = %d", g, most)
		}
	})
	if some == 0 {
		t.Error("nothing may be turned")
	}
}

// asked is all that is told of a geometry and a number.
type asked struct {
	may, turn        bool
	piece, want, cap int
}

func ask(g api.Geo, n int) asked {
	return asked{may: room.May(g), turn: room.Turn(g, n), piece: room.Piece(g.Size), want: room.Want(g, n), cap: room.Cap(g)}
}

// What is answered once is answered again, whatever was asked in between.
func TestAnswersHangOnNothingElse(t *testing.T) {
	geos := append(notWithin(), geo(16, 8, 0), geo(16, 8, 2), geo(64, 32, 4), geo(18, 4, 0), geo(16, 4, 0), geo(8, 4, 4), api.Geo{Blocks: 20, Pages: 9, Size: 256, Spares: 1})
	numbers := []int{math.MinInt, -1, 0, 1, 3, 6, 200, 1 << 20, math.MaxInt}
	first := map[api.Geo][]asked{}
	for _, g := range geos {
		for _, n := range numbers {
			first[g] = append(first[g], ask(g, n))
		}
		first[g] = first[g][:len(numbers):len(numbers)]
	}
	for i := range numbers {
		for j := len(geos) - 1; j >= 0; j-- {
			g := geos[j]
			if got := ask(g, numbers[i]); got != first[g][i] {
				t.Errorf("of %+v and %d: %+v, then %+v", g, numbers[i], first[g][i], got)
			}
		}
	}
}
