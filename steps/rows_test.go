package steps_test

import (
	"math/rand"
	"slices"
	"testing"

	"carrack/api"
	"carrack/fact"
	"carrack/model"
	"carrack/steps"
	"carrack/woven"
)

// P9.3: long rows of any acts.

// pathsOf answers the paths of all that is in the tree.
func pathsOf(t api.Tree) []string {
	l := []string{}
	var under func(s string, ino int)
	under = func(s string, ino int) {
		l = append(l, s)
		at := slices.IndexFunc(t.Nodes, func(n api.Inode) bool { return n.Ino == ino })
		for _, x := range t.Nodes[at].Names {
			under(s+"/"+x.Name, x.Ino)
		}
	}
	under("", 1)
	return l
}

func anyPath(r *rand.Rand, there []string) string {
	s := there[r.Intn(len(there))]
	if r.Intn(2) == 0 {
		s += "/" + []string{"a", "b", "c", ".d", "abcdefghijkl"}[r.Intn(5)]
	}
	if s == "" {
		return "/"
	}
	return s
}

// anyBytes answers bytes with many noughts among them.
func anyBytes(r *rand.Rand, most int) []byte {
	b := make([]byte, r.Intn(r.Intn(most+1)+1))
	for i := range b {
		b[i] = "\x00\x00\x00\x00xy\xff"[r.Intn(7)]
	}
	return b
}

// moods are lists of kinds: of some a tree grows up to its limits, of others it
// is worn down again.
var moods = [][]api.ActKind{
	{0, 1, 2, 3, 4, 5, 6, 7, 8, 9, 10, 11, 12, 13},
	{api.ActMkdir, api.ActMkdir, api.ActCreate, api.ActRename},
	{api.ActCreate, api.ActLink, api.ActLink, api.ActMkdir, api.ActWrite},
	{api.ActUnlink, api.ActRmdir, api.ActRename, api.ActUnlink, api.ActCreate},
	{api.ActWrite, api.ActCut, api.ActWrite, api.ActLink},
	{api.ActWrite, api.ActWrite, api.ActCreate, api.ActRename},
}

func anyAct(r *rand.Rand, t api.Tree, kinds []api.ActKind) api.Act {
	there := pathsOf(t)
	most := 8 * t.Piece
	a := api.Act{
		Kind: kinds[r.Intn(len(kinds))], Path: anyPath(r, there), To: anyPath(r, there),
		At: r.Intn(most + 1), N: r.Intn(most + 1), Bytes: anyBytes(r, most),
	}
	if a.Kind == api.ActWrite && r.Intn(2) == 0 {
		a.Bytes = a.Bytes[:min(len(a.Bytes), most-a.At)]
	}
	return a
}

// rows goes long rows of acts, and shows each with the tree ahead of it.
func rows(t *testing.T, seeds, acts int, look func(r *rand.Rand, tree api.Tree, a api.Act)) {
	t.Helper()
	for seed := range seeds {
		r := rand.New(rand.NewSource(int64(seed)))
		tree := fresh(t, []int{1, 2, 3, 32, 72, 255}[seed%6])
		mood := 0
		for i := range acts {
			if i%60 == 0 {
				mood = r.Intn(len(moods))
			}
			a := anyAct(r, tree, moods[mood])
			look(r, tree, a)
			tree, _ = model.Do(tree, a)
		}
	}
}

func TestRows(t *testing.T) {
	kinds := map[api.ActKind]int{}
	several, mostSteps := 0, 0
	rows(t, 12, 700, func(_ *rand.Rand, tree api.Tree, a api.Act) {
		got, behind, answer := steps.Of(tree, a)
		wantTree, wantAnswer := model.Do(tree, a)
		if text(behind) != text(wantTree) || answerText(answer) != answerText(wantAnswer) {
			t.Fatalf("Of(%s, %+v) = .., %s, %+v; want %s, %+v", text(tree), a, text(behind), answer, text(wantTree), wantAnswer)
		}
		if stepsText(got) != stepsText(plainSteps(tree, a)) {
			t.Fatalf("Of(%s, %+v) = %s; want %s", text(tree), a, stepsText(got), stepsText(plainSteps(tree, a)))
		}
		wantFollows(t, tree, a, got)
		l, _ := woven.Facts(tree)
		for _, step := range got {
			l = fact.Apply(l, step)
		}
		if last, _ := woven.Facts(behind); !fact.Same(l, last) {
			t.Fatalf("Of(%s, %+v) = %s: other facts than those of %s", text(tree), a, stepsText(got), text(behind))
		}
		if len(got) > 0 {
			kinds[a.Kind]++
		}
		if len(got) > 1 {
			several++
		}
		mostSteps = max(mostSteps, len(got))
		if steps.Cost(got) != plainCost(got) {
			t.Fatalf("Cost(%s) = %d; want %d", stepsText(got), steps.Cost(got), plainCost(got))
		}
	})
	// The rows go as far as it goes.
	for k := api.ActMkdir; k <= api.ActCut; k++ {
		if kinds[k] < 10 {
			t.Errorf("just %d acts of the kind %d have steps", kinds[k], k)
		}
	}
	if several < 100 || mostSteps != api.Pieces {
		t.Errorf("%d acts have several steps, %d at most", several, mostSteps)
	}
}

// Between two trees of one row, however far from each other they stand.
func TestBetweenAnyTwo(t *testing.T) {
	var seen []api.Tree
	rows(t, 6, 300, func(r *rand.Rand, tree api.Tree, _ api.Act) {
		if len(seen) > 0 && seen[0].Piece != tree.Piece {
			seen = nil
		}
		seen = append(seen, tree)
		for range 2 {
			other := seen[r.Intn(len(seen))]
			got := steps.Between(other, tree)
			if stepText(got) != stepText(plainBetween(other, tree)) {
				t.Fatalf("Between(%s, %s) = %s; want %s", text(other), text(tree), stepText(got), stepText(plainBetween(other, tree)))
			}
			was, _ := woven.Facts(other)
			is, _ := woven.Facts(tree)
			if !fact.Same(fact.Apply(was, got), is) {
				t.Fatalf("Between(%s, %s) = %s makes other facts", text(other), text(tree), stepText(got))
			}
			if len(got) == 0 != model.Same(other, tree) {
				t.Fatalf("Between(%s, %s) = %s", text(other), text(tree), stepText(got))
			}
		}
	})
}
