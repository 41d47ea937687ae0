package tests

import (
	"fmt"
	"runtime"
	"slices"
	"sync"
	"testing"

	"loop.example/g01378/impl"
)

// roomyMarked returns a copy of arguments, all of whose lists have unused capacity that is not zero.
func roomyMarked(a marked) marked {
	a.list, a.pile = roomy(a.list, 77), roomy(a.pile, 77)
	a.expected, a.found = roomy(a.expected, 77), roomy(a.found, 77)
	return a
}

// keptMarked tells all lists of some arguments, with their unused capacity.
func keptMarked(a marked) string {
	return fmt.Sprint(whole(a.list), whole(a.pile), whole(a.expected), whole(a.found))
}

// codelessMarks are the functions that have no code.
var codelessMarks = deed[marked]{"codeless", "", func(a marked) (string, int64) {
	return fmt.Sprint(impl.ValidMark(a.stitches, a.m), impl.StitchesIn(a.m), impl.MarkText(a.stitches, a.m)), impl.OK
}}

func everyOfMarks() []deed[marked] {
	return append(slices.Clone(allMarks), codelessMarks)
}

func TestNoArgumentOfMarksIsChanged(t *testing.T) {
	d := dice(107)
	for range 1000 {
		a := roomyMarked(anyMarked(&d))
		before := keptMarked(a)
		for _, c := range everyOfMarks() {
			c.make(a)
			if after := keptMarked(a); after != before {
				t.Fatalf("%s changes an argument: %s, and then %s", c.name, before, after)
			}
		}
	}
}

// TestMarksInOneList has what is seen in the unused capacity of the marks, and the other way round.
func TestMarksInOneList(t *testing.T) {
	all := marks(".... +..+ .++. ++++ ...+ ++.. ....")
	numbers := []int64{3, 1, 1, 2}
	want := fmt.Sprint(all, numbers)
	for _, at := range []int{0, 1, 4, 6, 7} {
		a := rightMarked()
		a.list, a.pile, a.expected, a.found = all[:at], all[at:], numbers[:2], numbers[2:]
		b := a
		b.list, b.pile = slices.Clone(a.list), slices.Clone(a.pile)
		checkEqual(t, everyOfMarks(), a, b)
		a.list, a.pile, a.expected, a.found = all[at:], all[:at], numbers, numbers
		b = a
		b.list, b.pile, b.found = slices.Clone(a.list), slices.Clone(a.pile), slices.Clone(numbers)
		checkEqual(t, everyOfMarks(), a, b)
		a.list, a.pile = all[:at], all[:at] // the same list as both
		b.list, b.pile = slices.Clone(a.list), slices.Clone(a.pile)
		checkEqual(t, everyOfMarks(), a, b)
		is(t, "the lists", want, fmt.Sprint(all, numbers))
	}
}

func TestEqualArgumentsOfMarksGetEqualResults(t *testing.T) {
	d := dice(108)
	for range 500 {
		a := anyMarked(&d)
		checkEqual(t, everyOfMarks(), a, roomyMarked(a))
		text := stitched(d.stitches(), a.m)
		m, stitches, code := impl.ReadMark(text)
		again, stitchesAgain, codeAgain := impl.ReadMark(text)
		is(t, text, fmt.Sprint(m, stitches, code), again, stitchesAgain, codeAgain)
	}
}

// checkHoweverRun has a text of results told on few and on many processors, and several times at once.
func checkHoweverRun(t *testing.T, tell func() string) {
	t.Helper()
	want := tell()
	usual := runtime.GOMAXPROCS(0)
	defer runtime.GOMAXPROCS(usual)
	for _, count := range []int{1, 2, 3, 16} {
		runtime.GOMAXPROCS(count)
		var all sync.WaitGroup
		texts := make([]string, 4)
		for i := range texts {
			all.Go(func() { texts[i] = tell() })
		}
		all.Wait()
		for _, text := range texts {
			if text != want {
				t.Fatalf("%d processors: %s, and then %s", count, want, text)
			}
		}
	}
}

// checkNothingGoesOn looks for goroutines that many uses leave behind.
func checkNothingGoesOn(t *testing.T, use func()) {
	t.Helper()
	before := runtime.NumGoroutine()
	for range 100 {
		use()
	}
	for range 1000 {
		runtime.Gosched() // one that has sent its last result may still have to end
	}
	if after := runtime.NumGoroutine(); after > before+50 {
		t.Errorf("%d goroutines before, and %d after", before, after)
	}
}

func TestClassesHoweverTheGoroutinesRun(t *testing.T) {
	checkHoweverRun(t, func() string {
		text := ""
		for stitches := int64(1); stitches <= 12; stitches++ {
			class, most, code := impl.BestClass(stitches)
			text += fmt.Sprint(class, " ", most, " ", code)
			for class := range stitches + 1 {
				list, code := impl.ClassMarks(stitches, class)
				text += fmt.Sprint(list, code)
			}
		}
		return text
	})
}

// TestNothingOfAClassGoesOn has also classes with too many marks.
func TestNothingOfAClassGoesOn(t *testing.T) {
	checkNothingGoesOn(t, func() {
		for stitches := int64(0); stitches <= 13; stitches++ {
			impl.BestClass(stitches)
			impl.ClassMarks(stitches, 0)
			impl.ClassMarks(stitches, stitches)
			impl.ClassMarks(stitches, stitches+1)
		}
	})
}

func TestNoMarksAreAsEmpty(t *testing.T) {
	a, b := rightMarked(), rightMarked()
	a.list, a.pile, a.expected, a.found = nil, nil, nil, nil
	b.list, b.pile, b.expected, b.found = []impl.Mark{}, []impl.Mark{}, []int64{}, []int64{}
	checkEqual(t, everyOfMarks(), a, b)
	c, other := rightMarked(), rightMarked()
	c.pile, c.found = nil, nil
	other.pile, other.found = []impl.Mark{}, []int64{}
	checkEqual(t, everyOfMarks(), c, other)
}

func TestResultsOfMarksAreNew(t *testing.T) {
	d := dice(109)
	for i := range 300 {
		a := rightMarked()
		if i > 0 {
			a = anyMarked(&d)
		}
		a = roomyMarked(a)
		before := keptMarked(a)
		fresh(t, "LostFrom", 99, func() []impl.Mark { got, _ := impl.LostFrom(a.stitches, a.m); return got })
		fresh(t, "GreedyMarks", 99, func() []impl.Mark { got, _ := impl.GreedyMarks(a.stitches, a.most); return got })
		fresh(t, "ClassMarks", 99, func() []impl.Mark { got, _ := impl.ClassMarks(a.stitches, a.class); return got })
		freshCupboard(t, "SortByMarks", func() [][]int64 { got, _, _ := impl.SortByMarks(a.stitches, a.list, a.pile); return got })
		fresh(t, "SortByMarks, the rest", 99, func() []int64 { _, got, _ := impl.SortByMarks(a.stitches, a.list, a.pile); return got })
		fresh(t, "MissingBy", 99, func() []int64 { got, _ := impl.MissingBy(a.expected, a.found); return got })
		fresh(t, "LikelyLost", 99, func() []int64 { got, _ := impl.LikelyLost(a.stitches, a.list, a.seen); return got })
		checkSortedApart(t, a)
		if after := keptMarked(a); after != before {
			t.Fatalf("the arguments: %s, and then %s", before, after)
		}
	}
}

// checkSortedApart checks that neither what is sorted nor the rest has any memory of the other one.
func checkSortedApart(t *testing.T, a marked) {
	t.Helper()
	sorted, unread, _ := impl.SortByMarks(a.stitches, a.list, a.pile)
	want := copyOf(sorted)
	spoil(unread, 99)
	if !same(sorted, want) {
		t.Errorf("what is sorted has memory of the rest: %v, and then %v", want, sorted)
	}
	sorted, unread, _ = impl.SortByMarks(a.stitches, a.list, a.pile)
	rest := slices.Clone(unread)
	for i := range sorted {
		spoil(sorted[i], 99)
	}
	if !slices.Equal(unread, rest) {
		t.Errorf("the rest has memory of what is sorted: %v, and then %v", rest, unread)
	}
}
