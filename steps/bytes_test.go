package steps_test

import (
	"strings"
	"testing"

	"carrack/api"
	"carrack/model"
	"carrack/steps"
)

const nought = "\x00"

// file answers a tree of pieces of so many bytes with a file /f that has these.
func file(t *testing.T, piece int, b string) api.Tree {
	t.Helper()
	return fresh(t, piece, create("/f"), write("/f", 0, b))
}

// P9.1: writes.

func TestWriteOnePiece(t *testing.T) {
	tree := file(t, 4, "abcdefgh")
	wantOf(t, tree, write("/f", 0, "X"), step{toPiece(2, 0, "Xbcd")})
	wantOf(t, tree, write("/f", 3, "X"), step{toPiece(2, 0, "abcX")})
	wantOf(t, tree, write("/f", 0, "WXYZ"), step{toPiece(2, 0, "WXYZ")})
	wantOf(t, tree, write("/f", 4, "X"), step{toPiece(2, 1, "Xfgh")})
	wantOf(t, tree, write("/f", 5, "YZ"), step{toPiece(2, 1, "eYZh")})
	wantOf(t, tree, write("/f", 4, "WXYZ"), step{toPiece(2, 1, "WXYZ")})
}

func TestWriteSeveralPieces(t *testing.T) {
	tree := file(t, 4, "abcdefghijklmnop")
	wantOf(t, tree, write("/f", 3, "XY"), step{toPiece(2, 0, "abcX")}, step{toPiece(2, 1, "Yfgh")})
	wantOf(t, tree, write("/f", 2, "STUVWXYZ"), step{toPiece(2, 0, "abST")}, step{toPiece(2, 1, "UVWX")}, step{toPiece(2, 2, "YZkl")})
	wantOf(t, tree, write("/f", 4, "STUVWXYZ"), step{toPiece(2, 1, "STUV")}, step{toPiece(2, 2, "WXYZ")})
	wantOf(t, tree, write("/f", 0, "ABCDEFGHIJKLMNOP"),
		step{toPiece(2, 0, "ABCD")}, step{toPiece(2, 1, "EFGH")}, step{toPiece(2, 2, "IJKL")}, step{toPiece(2, 3, "MNOP")})
}

// The size behind each step is where the bytes so far end, if that is more than
// it was.
func TestWriteAtTheEnd(t *testing.T) {
	wantOf(t, file(t, 4, ""), write("/f", 0, "a"), step{toFile(2, 1, 1), toPiece(2, 0, "a")})
	wantOf(t, file(t, 4, ""), write("/f", 0, "abcd"), step{toFile(2, 1, 4), toPiece(2, 0, "abcd")})
	wantOf(t, file(t, 4, ""), write("/f", 0, "abcde"), step{toFile(2, 1, 4), toPiece(2, 0, "abcd")}, step{toFile(2, 1, 5), toPiece(2, 1, "e")})
	wantOf(t, file(t, 4, "abc"), write("/f", 3, "XY"), step{toFile(2, 1, 4), toPiece(2, 0, "abcX")}, step{toFile(2, 1, 5), toPiece(2, 1, "Y")})
	wantOf(t, file(t, 4, "abcd"), write("/f", 4, "XY"), step{toFile(2, 1, 6), toPiece(2, 1, "XY")})
	// Within the file first, then over its end.
	wantOf(t, file(t, 4, "abcdef"), write("/f", 2, "STUVWXYZ"),
		step{toPiece(2, 0, "abST")}, step{toFile(2, 1, 8), toPiece(2, 1, "UVWX")}, step{toFile(2, 1, 10), toPiece(2, 2, "YZ")})
	// The bytes behind are the file's still.
	wantOf(t, file(t, 4, "abcdefg"), write("/f", 3, "XY"), step{toPiece(2, 0, "abcX")}, step{toPiece(2, 1, "Yfg")})
}

func TestWriteBehindTheEnd(t *testing.T) {
	wantOf(t, file(t, 4, ""), write("/f", 2, "a"), step{toFile(2, 1, 3), toPiece(2, 0, nought+nought+"a")})
	wantOf(t, file(t, 4, "ab"), write("/f", 3, "XY"), step{toFile(2, 1, 4), toPiece(2, 0, "ab\x00X")}, step{toFile(2, 1, 5), toPiece(2, 1, "Y")})
	// Pieces in between, which are all noughts, are no part of it.
	wantOf(t, file(t, 4, "ab"), write("/f", 13, "XYZ"), step{toFile(2, 1, 16), toPiece(2, 3, "\x00XYZ")})
	wantOf(t, file(t, 4, "ab"), write("/f", 15, "XYZ"), step{toFile(2, 1, 16), toPiece(2, 3, "\x00\x00\x00X")}, step{toFile(2, 1, 18), toPiece(2, 4, "YZ")})
	wantOf(t, file(t, 4, ""), write("/f", 31, "X"), step{toFile(2, 1, 32), toPiece(2, 7, "\x00\x00\x00X")})
	wantOf(t, file(t, 4, "abcd"), write("/f", 8, "X"), step{toFile(2, 1, 9), toPiece(2, 2, "X")})
}

// Noughts that are written make no piece, but the size goes with them.
func TestWriteNoughts(t *testing.T) {
	none := strings.Repeat(nought, 32)
	wantOf(t, file(t, 4, ""), write("/f", 0, none[:1]), step{toFile(2, 1, 1)})
	wantOf(t, file(t, 4, ""), write("/f", 2, none[:7]), step{toFile(2, 1, 4)}, step{toFile(2, 1, 8)}, step{toFile(2, 1, 9)})
	wantOf(t, file(t, 4, ""), write("/f", 0, none),
		step{toFile(2, 1, 4)}, step{toFile(2, 1, 8)}, step{toFile(2, 1, 12)}, step{toFile(2, 1, 16)},
		step{toFile(2, 1, 20)}, step{toFile(2, 1, 24)}, step{toFile(2, 1, 28)}, step{toFile(2, 1, 32)})
	wantNone(t, file(t, 4, none), write("/f", 0, none))
	wantOf(t, file(t, 4, none), write("/f", 6, "X"), step{toPiece(2, 1, "\x00\x00X")})
	wantOf(t, file(t, 4, none), write("/f", 3, "XYZ"), step{toPiece(2, 0, "\x00\x00\x00X")}, step{toPiece(2, 1, "YZ")})
	// A piece that becomes all noughts is gone; one that ends with them is shorter.
	wantOf(t, file(t, 4, "abcdefgh"), write("/f", 0, none[:4]), step{gone(pieceKey(2, 0))})
	wantOf(t, file(t, 4, "abcdefgh"), write("/f", 0, none[:3]), step{toPiece(2, 0, "\x00\x00\x00d")})
	wantOf(t, file(t, 4, "abcdefgh"), write("/f", 1, none[:3]), step{toPiece(2, 0, "a")})
	wantOf(t, file(t, 4, "abcdefgh"), write("/f", 2, none[:7]), step{toPiece(2, 0, "ab")}, step{gone(pieceKey(2, 1))}, step{toFile(2, 1, 9)})
	wantOf(t, file(t, 4, "abcdefgh"), write("/f", 6, none[:2]), step{toPiece(2, 1, "ef")})
}

// Pieces that end with noughts before, behind, or both.
func TestWriteNoughtsAtEnds(t *testing.T) {
	for _, x := range []struct {
		was  string
		at   int
		b    string
		want string
	}{
		{"ab\x00\x00efgh", 1, "XY", "aXY"},
		{"ab\x00\x00efgh", 1, "X\x00", "aX"},
		{"ab\x00\x00efgh", 0, "\x00b", "\x00b"},
		{"ab\x00\x00efgh", 1, "\x00", "a"},
		{"abcdefgh", 2, "\x00\x00", "ab"},
		{"abcdefgh", 3, "\x00", "abc"},
		{"abc\x00efgh", 3, "X", "abcX"},
		{"abc\x00", 3, "X", "abcX"},
		{"\x00\x00\x00\x00efgh", 2, "X\x00", "\x00\x00X"},
		{"a\x00c\x00efgh", 2, "\x00X", "a\x00\x00X"},
	} {
		wantOf(t, file(t, 4, x.was), write("/f", x.at, x.b), step{toPiece(2, 0, x.want)})
	}
	wantNone(t, file(t, 4, "ab\x00\x00efgh"), write("/f", 1, "b\x00"))
	wantNone(t, file(t, 4, "ab\x00\x00"), write("/f", 2, "\x00\x00"))
}

// A step that changes nothing is left out, those around it are there.
func TestWriteLeavesOut(t *testing.T) {
	tree := file(t, 4, "abcdefghijklmnop")
	wantOf(t, tree, write("/f", 0, "ABCDefghIJKL"), step{toPiece(2, 0, "ABCD")}, step{toPiece(2, 2, "IJKL")})
	wantOf(t, tree, write("/f", 0, "abcdEfghijkl"), step{toPiece(2, 1, "Efgh")})
	wantOf(t, tree, write("/f", 2, "cdefghijkLmn"), step{toPiece(2, 2, "ijkL")})
	wantOf(t, tree, write("/f", 2, "cDefghijklmnopq"), step{toPiece(2, 0, "abcD")}, step{toFile(2, 1, 17), toPiece(2, 4, "q")})
	wantOf(t, tree, write("/f", 2, "cdefghijklmnop\x00"), step{toFile(2, 1, 17)})
	wantOf(t, tree, write("/f", 0, "Abcdefghijklmnop"), step{toPiece(2, 0, "Abcd")})
	wantOf(t, tree, write("/f", 0, "abcdefghijklmnoP"), step{toPiece(2, 3, "mnoP")})
	holes := file(t, 4, "abcd"+strings.Repeat(nought, 8)+"mnop")
	wantOf(t, holes, write("/f", 2, "CD"+strings.Repeat(nought, 8)+"MN"), step{toPiece(2, 0, "abCD")}, step{toPiece(2, 3, "MNop")})
}

// Files of one piece, and of as many as there may be; each size of a piece that
// the document's chips have, and the least and the greatest.
func TestWriteSizes(t *testing.T) {
	for _, piece := range []int{1, 2, 32, 72, 200, 255} {
		all := strings.Repeat("0123456789abcdefg", 125)
		for _, size := range []int{0, 1, piece, 8*piece - 1, 8 * piece} {
			size = min(size, 8*piece)
			tree := file(t, piece, all[:size])
			for _, at := range []int{0, 1, piece - 1, piece, piece + 1, 4*piece + piece/2, 8*piece - 1} {
				for _, n := range []int{1, piece - 1, piece, piece + 1, 2 * piece, 8*piece - at} {
					at := min(at, 8*piece-1)
					n := max(1, min(n, 8*piece-at))
					a := write("/f", at, strings.ToUpper(strings.Repeat("hijklmnop", 230))[:n])
					wantOf(t, tree, a, plainSteps(tree, a)...)
					if got, _, _ := steps.Of(tree, a); len(got) != (at+n-1)/piece-at/piece+1 {
						t.Errorf("Of(%s, %+v): %d steps", text(tree), a, len(got))
					}
				}
			}
		}
	}
}

// The same bytes of another name of the file.
func TestWriteByALink(t *testing.T) {
	tree := fresh(t, 4, create("/f"), mkdir("/d"), link("/f", "/d/g"), write("/f", 0, "abcdef"))
	for _, s := range []string{"/f", "/d/g"} {
		wantOf(t, tree, write(s, 3, "XYZUV"), step{toPiece(2, 0, "abcX")}, step{toFile(2, 2, 8), toPiece(2, 1, "YZUV")})
		wantOf(t, tree, cutTo(s, 1), step{toFile(2, 2, 1), toPiece(2, 0, "a"), gone(pieceKey(2, 1))})
	}
}

// P9.1: cuts.

func TestCutTo(t *testing.T) {
	tree := file(t, 4, "abcdefghij")
	wantOf(t, tree, cutTo("/f", 9), step{toFile(2, 1, 9), toPiece(2, 2, "i")})
	wantOf(t, tree, cutTo("/f", 8), step{toFile(2, 1, 8), gone(pieceKey(2, 2))})
	wantOf(t, tree, cutTo("/f", 7), step{toFile(2, 1, 7), toPiece(2, 1, "efg"), gone(pieceKey(2, 2))})
	wantOf(t, tree, cutTo("/f", 1), step{toFile(2, 1, 1), toPiece(2, 0, "a"), gone(pieceKey(2, 1)), gone(pieceKey(2, 2))})
	wantOf(t, tree, cutTo("/f", 0), step{toFile(2, 1, 0), gone(pieceKey(2, 0)), gone(pieceKey(2, 1)), gone(pieceKey(2, 2))})
	// New bytes are noughts, and no pieces: one step, however many it goes over.
	wantOf(t, tree, cutTo("/f", 11), step{toFile(2, 1, 11)})
	wantOf(t, tree, cutTo("/f", 32), step{toFile(2, 1, 32)})
	wantOf(t, file(t, 4, ""), cutTo("/f", 32), step{toFile(2, 1, 32)})
	wantNone(t, tree, cutTo("/f", 10))
	holes := file(t, 4, "a\x00\x00d\x00\x00\x00\x00\x00j")
	wantOf(t, holes, cutTo("/f", 9), step{toFile(2, 1, 9), gone(pieceKey(2, 2))})
	wantOf(t, holes, cutTo("/f", 6), step{toFile(2, 1, 6), gone(pieceKey(2, 2))})
	wantOf(t, holes, cutTo("/f", 3), step{toFile(2, 1, 3), toPiece(2, 0, "a"), gone(pieceKey(2, 2))})
	// Bytes of the act are no part of a cut.
	a := cutTo("/f", 3)
	a.Bytes = []byte("XYZXYZXYZ")
	wantOf(t, holes, a, step{toFile(2, 1, 3), toPiece(2, 0, "a"), gone(pieceKey(2, 2))})
}

// The greatest step in which a piece is written: a cut that leaves the first
// piece but a byte of it.
func TestGreatestCut(t *testing.T) {
	for _, piece := range []int{2, 32, 72, 255} {
		tree := file(t, piece, strings.Repeat("x", 8*piece))
		got, _, _ := steps.Of(tree, cutTo("/f", piece-1))
		if n := steps.Cost(got); len(got) != 1 || n != piece+50 {
			t.Errorf("pieces of %d: Cost(%s) = %d; want %d", piece, stepsText(got), n, piece+50)
		}
		wantOf(t, tree, cutTo("/f", piece-1), plainSteps(tree, cutTo("/f", piece-1))...)
	}
}

// All writes on all small files: of pieces of 2, the one of noughts and others,
// each bit of which says whether a byte is one.
func TestAllSmallWrites(t *testing.T) {
	bytesOf := func(bits, n int, c byte) string {
		b := make([]byte, n)
		for i := range b {
			if bits>>i&1 != 0 {
				b[i] = c
			}
		}
		return string(b)
	}
	times := 0
	for size := range 6 {
		for was := range 1 << size {
			tree := file(t, 2, bytesOf(was, size, 'x'))
			for at := range 7 {
				for n := range 5 {
					for is := range 1 << n {
						for _, c := range []byte("xy") {
							a := write("/f", at, bytesOf(is, n, c))
							got, behind, answer := steps.Of(tree, a)
							wantTree, wantAnswer := model.Do(tree, a)
							if text(behind) != text(wantTree) || answerText(answer) != answerText(wantAnswer) || stepsText(got) != stepsText(plainSteps(tree, a)) {
								t.Fatalf("Of(%s, %+v) = %s; want %s", text(tree), a, stepsText(got), stepsText(plainSteps(tree, a)))
							}
							wantFollows(t, tree, a, got)
							times++
						}
					}
				}
			}
		}
	}
	if times < 20000 {
		t.Errorf("just %d writes", times)
	}
}
