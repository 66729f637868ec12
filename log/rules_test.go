package log_test

import (
	"bytes"
	"fmt"
	"slices"
	"testing"

	"carrack/api"
	"carrack/fact"
	"carrack/log"
	"carrack/scan"
)

func spoilBytes(b []byte) {
	b = b[:cap(b)]
	for i := range b {
		b[i] ^= 0xff
	}
}

func spoilFacts(l []api.Fact) {
	l = l[:cap(l)]
	for i := range l {
		spoilBytes(l[i].Value)
		l[i] = is(node(-9), 9)
	}
}

func spoilChanges(l []api.Change) {
	l = l[:cap(l)]
	for i := range l {
		spoilBytes(l[i].Value)
		l[i] = gone(node(-9))
	}
}

// roomyChanges are the changes with room behind the list and behind each value,
// in which something stands.
func roomyChanges(l []api.Change) []api.Change {
	all := append(slices.Clone(l), set(node(77), 3), gone(entry(77, "room")))
	for i := range all {
		if all[i].Value == nil {
			continue
		}
		b := append(bytes.Clone(all[i].Value), "room"...)
		all[i].Value = b[:len(all[i].Value)]
	}
	return all[:len(l)]
}

// wholeChanges tells all that changes reach, the room behind the lists, too.
func wholeChanges(l []api.Change) string {
	s := fmt.Sprint(len(l), "\n")
	for _, c := range l[:cap(l)] {
		s += fmt.Sprintf("%v %v %d %v %x\n", c.Key, c.Gone, len(c.Value), c.Value == nil, c.Value[:cap(c.Value)])
	}
	return s
}

func handedIn() [][]api.Change {
	l := [][]api.Change{
		{set(node(1), 5)}, {set(node(3), 7), set(node(1), 6)}, {gone(node(1))}, {set(node(2), 1), gone(node(2))},
		{set(entry(1, "b"), 2, 0), set(entry(1, "a"), 3, 0), gone(piece(1, 1))}, {set(piece(3, 7), 1, 2, 3)},
		nodes(30), {set(node(1), bytes.Repeat([]byte{3}, 117)...)},
	}
	return slices.Concat(l, noChanges(), tooLong())
}

// What is handed in stays as it is, the room behind it too.
func TestHandedInStays(t *testing.T) {
	l := made(t, middle)
	for range 12 {
		for _, c := range handedIn() {
			c = roomyChanges(c)
			was := wholeChanges(c)
			l.Put(c)
			if wholeChanges(c) != was {
				t.Fatalf("the changes were\n%s\nand are\n%s", was, wholeChanges(c))
			}
		}
		l.Tidy(15)
	}
	dead := made(t, small)
	kill(t, dead.Chip())
	for _, c := range handedIn() {
		c = roomyChanges(c)
		was := wholeChanges(c)
		dead.Put(c)
		(&log.Log{}).Put(c)
		if wholeChanges(c) != was {
			t.Errorf("the changes were\n%s\nand are\n%s", was, wholeChanges(c))
		}
	}
}

// Nothing is put of the room behind a list.
func TestRoomBehindIsNotPut(t *testing.T) {
	l := made(t, small)
	put(t, l, roomyChanges(changes(set(node(1), 1)))...)
	wantFacts(t, l, facts(is(node(1), 1)))
	c := append(changes(set(node(2), 2)), set(node(0), 1))
	put(t, l, c[:1]...)
	wantFacts(t, l, facts(is(node(1), 1), is(node(2), 2)))
	if e := l.Put(c[:0]); e != api.ErrArg {
		t.Errorf("Put = %d", e)
	}
}

// A log shares memory with nothing that it was handed.
func TestHandedInIsNotKept(t *testing.T) {
	l := made(t, middle)
	var m []api.Fact
	for range 3 {
		for _, c := range handedIn() {
			c = roomyChanges(c)
			behind := fact.Apply(m, c)
			e := l.Put(c)
			spoilChanges(c)
			if e == api.OK {
				m = behind
			}
			wantFacts(t, l, m)
		}
		if e := l.Tidy(16); e != api.ErrFull {
			t.Errorf("Tidy = %d", e)
		}
		wantFacts(t, l, m)
	}
	if len(m) == 0 {
		t.Error("there are no facts")
	}
}

// full is a log that has some facts.
func full(t *testing.T) *log.Log {
	t.Helper()
	l := made(t, middle)
	put(t, l, set(node(1), 1, 2, 3), set(entry(1, "a"), 2, 0), set(entry(1, "b"), 3, 0))
	put(t, l, set(node(2), long(2)...))
	put(t, l, set(piece(2, 1), 7, 8), gone(entry(1, "a")))
	return l
}

// What Facts answers is new memory: it may be spoilt, and so may the next answer.
func TestFactsAreNewMemory(t *testing.T) {
	l := full(t)
	want := factsText(l.Facts())
	for _, l := range []*log.Log{l, open(t, power(t, l.Chip()), 1)} {
		first, second := l.Facts(), l.Facts()
		spoilFacts(first)
		if factsText(second) != want || factsText(l.Facts()) != want {
			t.Error("an answer shares memory with another one, or with the log")
		}
		spoilFacts(second)
		put(t, l, set(node(9), 9))
		if e := l.Tidy(16); e != api.ErrFull {
			t.Errorf("Tidy = %d", e)
		}
		put(t, l, gone(node(9)))
		if got, _ := scan.Facts(l.Chip(), 1); factsText(got) != want || factsText(l.Facts()) != want {
			t.Errorf("the facts are %s; scan tells %s; want %s", factsText(l.Facts()), factsText(got), want)
		}
	}
}

// No two values of one answer share memory.
func TestValuesOfOneAnswer(t *testing.T) {
	l := full(t)
	want := l.Facts()
	for i := range want {
		got := l.Facts()
		spoilBytes(got[i].Value)
		got[i].Value = want[i].Value
		if !same(got, want) {
			t.Errorf("the value of the fact %d is another one's, too: %s", i, factsText(got))
		}
	}
}

// What was answered stays when the facts change.
func TestAnswersStay(t *testing.T) {
	l := full(t)
	got := l.Facts()
	want := factsText(got)
	put(t, l, set(node(2), bytes.Repeat([]byte{0xff}, 100)...), gone(node(1)))
	l.Tidy(16)
	puts(t, l, 200)
	if factsText(got) != want {
		t.Errorf("the facts were %s, and are %s", want, factsText(got))
	}
}

// Looks change nothing.
func TestLooksChangeNothing(t *testing.T) {
	l := full(t)
	wantNothingDone(t, l.Chip(), func() {
		for range 3 {
			l.Facts()
			l.Blanks()
			l.Chip()
			l.Sync()
		}
	})
}

// Nil lists, and lists without elements, are the same.
func TestNoList(t *testing.T) {
	l := full(t)
	for _, c := range [][]api.Change{nil, {}} {
		wantRefused(t, l, c, api.ErrArg)
	}
	for _, v := range [][]byte{nil, {}} {
		wantRefused(t, l, changes(api.Change{Key: node(1), Value: v}), api.ErrArg)
		m := fact.Apply(l.Facts(), changes(gone(node(1))))
		put(t, l, api.Change{Key: node(1), Value: v, Gone: true})
		wantFacts(t, l, m)
	}
}

// answers puts a series, with cuts, and tells all that was answered, and all that
// is on the chip.
func answers(t *testing.T, other *log.Log) string {
	t.Helper()
	l := made(t, middle)
	s := ""
	for i := range 200 {
		c := l.Chip()
		if i%9 == 0 {
			hit(t, c, api.Hit{After: i % 11, Mask: masks(middle)[i%7], Fails: i%27 == 0 && i < 60})
		}
		e := l.Put(changing(i))
		if e == api.OK && i%31 == 0 {
			e = l.Tidy(12)
		}
		s += fmt.Sprint(int(e), l.Blanks(), "\n", factsText(l.Facts()))
		if e == api.ErrDead {
			l = open(t, power(t, c), 1)
		}
		if other != nil {
			put(t, other, set(node(1), byte(i)))
			other.Facts()
			(&log.Log{}).Put(changing(i))
		}
	}
	return s + fmt.Sprintf("%x", l.Chip().Bytes())
}

// What is answered, and done, hangs on what was handed in alone: not on what was
// asked of other logs.
func TestAnswersHangOnWhatIsHandedIn(t *testing.T) {
	want := answers(t, nil)
	for range 3 {
		if answers(t, made(t, small)) != want {
			t.Fatal("asked again, it answers something else")
		}
	}
}

// A log that is opened answers as the one that wrote does.
func TestOpenedIsAsItWas(t *testing.T) {
	l := made(t, middle)
	for i := range 150 {
		o := open(t, power(t, l.Chip()), 1)
		if o.Blanks() != l.Blanks() || !same(o.Facts(), l.Facts()) {
			t.Fatalf("opened: %d, %s; it has %d, %s", o.Blanks(), factsText(o.Facts()), l.Blanks(), factsText(l.Facts()))
		}
		if e, f := o.Put(changing(i)), l.Put(changing(i)); e != f || o.Blanks() != l.Blanks() || !same(o.Facts(), l.Facts()) {
			t.Fatalf("opened, it answers %d; else %d", e, f)
		}
	}
}

// With an error there is no log, and nothing else has changed.
func TestErrorsChangeNothing(t *testing.T) {
	l := full(t)
	c := l.Chip()
	was := l.Facts()
	wantNothingDone(t, c, func() {
		for _, x := range slices.Concat(noChanges(), tooLong()) {
			if e := l.Put(x); e != api.ErrArg && e != api.ErrLimit {
				t.Errorf("Put = %d", e)
			}
		}
		wantNoLog(t, c, 1, log.Make, api.ErrArg)
		wantNoLog(t, c, 0, log.Make, api.ErrArg)
		wantNoLog(t, c, 0, log.Open, api.ErrArg)
		wantNoLog(t, c, 2, log.Open, api.ErrCorrupt)
	})
	wantFacts(t, l, was)
	put(t, l, set(node(1), 2))
	wantFacts(t, l, fact.Apply(was, changes(set(node(1), 2))))
}
