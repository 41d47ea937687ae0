package tests

import (
	"fmt"
	"math"
	"slices"
	"testing"

	"loop.example/g01378/impl"
)

// marked are the arguments of a call about marks; each function takes those that it has.
type marked struct {
	stitches, most, class int64
	m, other, seen        impl.Mark
	list, pile            []impl.Mark // pile is what has been seen, where this is a list
	expected, found       []int64
}

var (
	lostFrom     = deed[marked]{"LostFrom", "[]", func(a marked) (string, int64) { return text1(impl.LostFrom(a.stitches, a.m)) }}
	checkMarks   = deed[marked]{"CheckMarks", "false", func(a marked) (string, int64) { return text1(impl.CheckMarks(a.stitches, a.list)) }}
	firstClash   = deed[marked]{"FirstClash", "0 0", func(a marked) (string, int64) { return text2(impl.FirstClash(a.stitches, a.list)) }}
	readStitches = deed[marked]{"ReadStitches", "0", func(a marked) (string, int64) { return text1(impl.ReadStitches(a.stitches, a.list, a.seen)) }}
	greedyMarks  = deed[marked]{"GreedyMarks", "[]", func(a marked) (string, int64) { return text1(impl.GreedyMarks(a.stitches, a.most)) }}
	classOf      = deed[marked]{"ClassOf", "0", func(a marked) (string, int64) { return text1(impl.ClassOf(a.stitches, a.m)) }}
	classMarks   = deed[marked]{"ClassMarks", "[]", func(a marked) (string, int64) { return text1(impl.ClassMarks(a.stitches, a.class)) }}
	bestClass    = deed[marked]{"BestClass", "0 0", func(a marked) (string, int64) { return text2(impl.BestClass(a.stitches)) }}
	mendStitch   = deed[marked]{"MendStitch", "0", func(a marked) (string, int64) { return text1(impl.MendStitch(a.stitches, a.class, a.seen)) }}
	sortByMarks  = deed[marked]{"SortByMarks", "[] []", func(a marked) (string, int64) { return text2(impl.SortByMarks(a.stitches, a.list, a.pile)) }}
	missingBy    = deed[marked]{"MissingBy", "[]", func(a marked) (string, int64) { return text1(impl.MissingBy(a.expected, a.found)) }}
	likelyLost   = deed[marked]{"LikelyLost", "[]", func(a marked) (string, int64) { return text1(impl.LikelyLost(a.stitches, a.list, a.seen)) }}
	apartBy      = deed[marked]{"ApartBy", "0", func(a marked) (string, int64) { return text1(impl.ApartBy(a.stitches, a.m, a.other)) }}
	leastApart   = deed[marked]{"LeastApart", "0", func(a marked) (string, int64) { return text1(impl.LeastApart(a.stitches, a.list)) }}
	withMark     = []deed[marked]{lostFrom, classOf, apartBy}
	withMarks    = []deed[marked]{checkMarks, readStitches, sortByMarks, likelyLost, leastApart}
	withSeen     = []deed[marked]{readStitches, mendStitch, likelyLost}
	withApart    = []deed[marked]{readStitches, sortByMarks}
	withClass    = []deed[marked]{classMarks, mendStitch}
	withStitches = slices.Concat(withMark, withMarks, withClass, []deed[marked]{greedyMarks, bestClass})
	withLists    = append([]deed[marked]{firstClash}, withMarks...)
	allStitches  = append([]deed[marked]{firstClash}, withStitches...)
	allMarks     = append([]deed[marked]{missingBy}, allStitches...)
)

// rightMarked has arguments with which all functions return OK, but FirstClash: the marks are told apart.
func rightMarked() marked {
	return marked{
		stitches: 4, most: 3, class: 0, m: mark("+.+."), other: mark("++.."), seen: mark("...+"),
		list: marks(".... +..+ .++. ++++"), pile: marks("...+ ++.. ...."), expected: []int64{3, 1}, found: []int64{1, 2},
	}
}

func setStitches(n int64) func(a *marked)         { return func(a *marked) { a.stitches = n } }
func setMost(most int64) func(a *marked)          { return func(a *marked) { a.most = most } }
func setClass(class int64) func(a *marked)        { return func(a *marked) { a.class = class } }
func setSeen(seen impl.Mark) func(a *marked)      { return func(a *marked) { a.seen = seen } }
func setMarks(list ...impl.Mark) func(a *marked)  { return func(a *marked) { a.list = list } }
func setPileOf(seen ...impl.Mark) func(a *marked) { return func(a *marked) { a.pile = seen } }
func setTwo(m, other impl.Mark) func(a *marked)   { return func(a *marked) { a.m, a.other = m, other } }
func setThingsOf(e, f []int64) func(a *marked)    { return func(a *marked) { a.expected, a.found = e, f } }

// clashing returns so many times the same mark.
func clashing(count int, m impl.Mark) []impl.Mark {
	return slices.Repeat([]impl.Mark{m}, count)
}

// wrongStitches are no numbers of stitches; the low bits of some would be.
func wrongStitches() []int64 {
	return []int64{0, -1, 13, 14, 16, 64, -4, 256 + 4, 1<<16 + 4, 1<<32 + 4, math.MaxInt64, math.MinInt64, math.MinInt64 + 4}
}

// wrongMarks are no marks of 4 stitches.
func wrongMarks() []impl.Mark {
	return []impl.Mark{16, 16 + 5, 31, 32, 1 << 8, 1 << 12, 1 << 15, 1<<15 + 1, 1<<16 - 1, 1<<16 - 16}
}

func TestAllMarksRight(t *testing.T) {
	gets(t, rightMarked, append(slices.Clone(withStitches), missingBy), "right", impl.OK)
	gets(t, rightMarked, []deed[marked]{firstClash}, "right", impl.ErrNotFound)
	gets(t, rightMarked, []deed[marked]{firstClash}, "the same twice", impl.OK, setMarks(5, 5))
}

func TestStitchesThatAreNone(t *testing.T) {
	for _, n := range wrongStitches() {
		what := fmt.Sprint(n, " stitches")
		gets(t, rightMarked, allStitches, what, impl.ErrInvalid, setStitches(n))
		gets(t, rightMarked, allStitches, what+", and no marks", impl.ErrInvalid, setStitches(n), setMarks(), setPileOf(), setSeen(0), setTwo(0, 0))
		gets(t, rightMarked, withLists, what+", and too many marks", impl.ErrInvalid, setStitches(n), setMarks(make([]impl.Mark, 41)...))
		gets(t, rightMarked, append(slices.Clone(withClass), greedyMarks), what+", and a wrong number", impl.ErrInvalid, setStitches(n), setClass(-1), setMost(-1))
		gets(t, rightMarked, withClass, what+", and a class of as many", impl.ErrInvalid, setStitches(n), setClass(n), setSeen(0))
	}
	for n := int64(1); n <= 12; n++ {
		right := []func(a *marked){setStitches(n), setMarks(0, 1<<n-1), setPileOf(0, 1), setSeen(0), setTwo(0, 1<<n-1)}
		calls := append(slices.Clone(withMark), checkMarks, likelyLost, leastApart, mendStitch, greedyMarks, bestClass)
		gets(t, rightMarked, calls, fmt.Sprint(n, " stitches"), impl.OK, right...)
	}
}

func TestMarksThatAreNone(t *testing.T) {
	for _, m := range wrongMarks() {
		what := fmt.Sprint("the mark ", m)
		gets(t, rightMarked, withMark, what, impl.ErrInvalid, setTwo(m, m))
		gets(t, rightMarked, withMark, what, impl.ErrInvalid, setTwo(m, 0))
		gets(t, rightMarked, []deed[marked]{apartBy}, what, impl.ErrInvalid, setTwo(0, m))
		gets(t, rightMarked, withSeen, what+" as what is seen", impl.ErrInvalid, setSeen(m))
		gets(t, rightMarked, withSeen, what+" as what is seen", impl.ErrInvalid, setSeen(m), setMarks())
		for at := range 4 {
			list := rightMarked().list
			list[at] = m
			gets(t, rightMarked, withLists, fmt.Sprint(what, " at ", at), impl.ErrInvalid, setMarks(list...))
			gets(t, rightMarked, []deed[marked]{sortByMarks}, fmt.Sprint(what, " seen at ", at), impl.ErrInvalid, setPileOf(list...))
		}
		gets(t, rightMarked, withLists, what+" alone", impl.ErrInvalid, setMarks(m))
		gets(t, rightMarked, []deed[marked]{sortByMarks}, what+" seen, and no marks", impl.ErrInvalid, setPileOf(m), setMarks())
	}
	for n := int64(1); n <= 12; n++ {
		bit := impl.Mark(1) << n
		gets(t, rightMarked, withMark, "one bit too many", impl.ErrInvalid, setStitches(n), setTwo(bit, 0))
		gets(t, rightMarked, withMark, "all bits", impl.OK, setStitches(n), setTwo(bit-1, 0))
		gets(t, rightMarked, []deed[marked]{mendStitch}, "one bit too many", impl.ErrInvalid, setStitches(n), setSeen(bit))
	}
}

// TestListsUpToMaxMarks has marks that are told apart, and such as are not.
func TestListsUpToMaxMarks(t *testing.T) {
	twelve := setStitches(12)
	gets(t, rightMarked, withMarks, "forty", impl.OK, twelve, setMarks(someApart(40)...), setSeen(0))
	gets(t, rightMarked, []deed[marked]{firstClash}, "forty", impl.ErrNotFound, twelve, setMarks(someApart(40)...))
	gets(t, rightMarked, withLists, "forty-one", impl.ErrLimit, twelve, setMarks(someApart(41)...), setSeen(0))
	gets(t, rightMarked, []deed[marked]{checkMarks, firstClash, likelyLost, leastApart}, "forty of the same", impl.OK, setMarks(clashing(40, 9)...), setSeen(9))
	gets(t, rightMarked, withApart, "forty of the same", impl.ErrState, setMarks(clashing(40, 9)...), setSeen(9))
	gets(t, rightMarked, withLists, "forty-one of the same", impl.ErrLimit, setMarks(clashing(41, 9)...), setSeen(9))
	gets(t, rightMarked, []deed[marked]{sortByMarks}, "forty that are seen", impl.OK, setPileOf(clashing(40, 9)...))
	gets(t, rightMarked, []deed[marked]{sortByMarks}, "forty-one that are seen", impl.ErrLimit, setPileOf(clashing(41, 9)...))
	gets(t, rightMarked, []deed[marked]{sortByMarks}, "forty-one that are seen, and no marks", impl.ErrLimit, setPileOf(clashing(41, 9)...), setMarks())
	gets(t, rightMarked, []deed[marked]{sortByMarks}, "forty-one marks, and nothing seen", impl.ErrLimit, setMarks(clashing(41, 9)...), setPileOf())
	gets(t, rightMarked, []deed[marked]{leastApart}, "one", impl.ErrNotFound, setMarks(9))
	gets(t, rightMarked, []deed[marked]{leastApart, readStitches, firstClash}, "no marks", impl.ErrNotFound, setMarks())
	gets(t, rightMarked, []deed[marked]{checkMarks, sortByMarks, likelyLost}, "no marks", impl.OK, setMarks())
}

// TestOrderOfErrorsOfMarks makes several errors at once: the one that the document lists first counts.
func TestOrderOfErrorsOfMarks(t *testing.T) {
	sorted := []deed[marked]{sortByMarks}
	late := append(clashing(41, 9), 16) // one that is none behind too many
	gets(t, rightMarked, withLists, "invalid before limit", impl.ErrInvalid, setMarks(late...))
	gets(t, rightMarked, withLists, "invalid before state", impl.ErrInvalid, setMarks(9, 9, 16))
	gets(t, rightMarked, []deed[marked]{readStitches, likelyLost}, "invalid, what is seen, before limit", impl.ErrInvalid, setMarks(clashing(41, 9)...), setSeen(16))
	gets(t, rightMarked, []deed[marked]{readStitches}, "invalid, what is seen, before state", impl.ErrInvalid, setMarks(9, 9), setSeen(16))
	gets(t, rightMarked, sorted, "invalid, what is seen, before limit of the marks", impl.ErrInvalid, setMarks(clashing(41, 9)...), setPileOf(16))
	gets(t, rightMarked, sorted, "invalid marks before limit of what is seen", impl.ErrInvalid, setMarks(16), setPileOf(clashing(41, 9)...))
	gets(t, rightMarked, sorted, "invalid before state", impl.ErrInvalid, setMarks(9, 9), setPileOf(9, 16))
	gets(t, rightMarked, withApart, "limit before state", impl.ErrLimit, setMarks(clashing(41, 9)...))
	gets(t, rightMarked, sorted, "limit of what is seen before state", impl.ErrLimit, setMarks(9, 9), setPileOf(clashing(41, 9)...))
	gets(t, rightMarked, []deed[marked]{readStitches}, "state before what is not found", impl.ErrState, setMarks(15, 15), setSeen(0))
	gets(t, rightMarked, []deed[marked]{readStitches}, "state before what is found", impl.ErrState, setMarks(0, 15, 15), setSeen(0))
	gets(t, rightMarked, withClass, "invalid before range", impl.ErrInvalid, setStitches(13), setClass(14))
	gets(t, rightMarked, []deed[marked]{mendStitch}, "invalid, what is seen, before range", impl.ErrInvalid, setSeen(16), setClass(-1))
	gets(t, rightMarked, []deed[marked]{mendStitch}, "range before what is not found", impl.ErrRange, setSeen(15), setClass(5))
	gets(t, rightMarked, []deed[marked]{mendStitch}, "not found", impl.ErrNotFound, setSeen(15), setClass(4))
	gets(t, rightMarked, []deed[marked]{classMarks}, "range before limit", impl.ErrRange, setStitches(12), setClass(13))
	gets(t, rightMarked, []deed[marked]{classMarks}, "limit", impl.ErrLimit, setStitches(12), setClass(12))
	gets(t, rightMarked, []deed[marked]{greedyMarks}, "invalid before range", impl.ErrInvalid, setStitches(0), setMost(41))
	gets(t, rightMarked, []deed[marked]{leastApart}, "invalid before what is not found", impl.ErrInvalid, setMarks(16))
}

func TestOwnersAndThings(t *testing.T) {
	only := []deed[marked]{missingBy}
	forty := make([]int64, 40)
	gets(t, rightMarked, only, "no owners", impl.OK, setThingsOf(nil, nil))
	gets(t, rightMarked, only, "one owner", impl.OK, setThingsOf([]int64{1}, []int64{1}))
	gets(t, rightMarked, only, "forty owners", impl.OK, setThingsOf(forty, forty))
	gets(t, rightMarked, only, "forty-one owners", impl.ErrRange, setThingsOf(make([]int64, 41), make([]int64, 41)))
	gets(t, rightMarked, only, "one more is expected", impl.ErrRange, setThingsOf(make([]int64, 41), forty))
	gets(t, rightMarked, only, "one more is found", impl.ErrRange, setThingsOf(forty, make([]int64, 41)))
	gets(t, rightMarked, only, "one less is expected", impl.ErrRange, setThingsOf(forty[1:], forty))
	gets(t, rightMarked, only, "one less is found", impl.ErrRange, setThingsOf(forty, forty[1:]))
	for _, n := range []int64{-1, 1001, 1002, -1000, 1 << 16, 1 << 32, 1<<32 + 1, math.MaxInt64, math.MinInt64} {
		for at := range 3 {
			wrong := make([]int64, 3)
			wrong[at] = n
			gets(t, rightMarked, only, fmt.Sprint(wrong), impl.ErrRange, setThingsOf(wrong, make([]int64, 3)))
			gets(t, rightMarked, only, fmt.Sprint(wrong), impl.ErrRange, setThingsOf(make([]int64, 3), wrong))
			gets(t, rightMarked, only, fmt.Sprint(wrong), impl.ErrRange, setThingsOf(wrong, wrong))
		}
	}
	for _, n := range []int64{0, 1, 999, 1000} {
		gets(t, rightMarked, only, fmt.Sprint(n), impl.OK, setThingsOf([]int64{n, 0, n}, []int64{0, n, n}))
	}
}

func TestClassesAndMostThatAreNone(t *testing.T) {
	for _, n := range []int64{-1, 5, 6, -5, 256, 1 << 16, 1 << 32, 1<<32 + 4, math.MaxInt64, math.MinInt64} {
		gets(t, rightMarked, withClass, fmt.Sprint("the class ", n), impl.ErrRange, setClass(n))
	}
	for class := range int64(5) {
		gets(t, rightMarked, withClass, fmt.Sprint("the class ", class), impl.OK, setClass(class), setSeen(0))
	}
	for stitches := int64(1); stitches <= 12; stitches++ {
		gets(t, rightMarked, []deed[marked]{mendStitch}, "the greatest class", impl.OK, setStitches(stitches), setClass(stitches), setSeen(0))
		gets(t, rightMarked, withClass, "one more", impl.ErrRange, setStitches(stitches), setClass(stitches+1), setSeen(0))
	}
	for _, n := range []int64{-1, 41, 42, -40, 256, 1 << 16, 1 << 32, 1<<32 + 3, math.MaxInt64, math.MinInt64} {
		gets(t, rightMarked, []deed[marked]{greedyMarks}, fmt.Sprint("most ", n), impl.ErrRange, setMost(n))
	}
	for _, n := range []int64{0, 1, 39, 40} {
		gets(t, rightMarked, []deed[marked]{greedyMarks}, fmt.Sprint("most ", n), impl.OK, setMost(n))
	}
}

// anyMarked returns arguments that are mostly right for some of the functions, and wrong for others.
func anyMarked(d *dice) marked {
	stitches := d.stitches()
	a := marked{stitches: int64(stitches), most: anyOf(d, 41), class: anyOf(d, stitches+1), m: d.mark(stitches), other: d.mark(stitches)}
	a.list = d.marks(stitches, d.below(42))
	a.seen = d.seen(stitches, a.list)
	a.pile = d.seenMarks(stitches, a.list, d.below(42))
	owners := d.below(42)
	for range owners {
		a.expected, a.found = append(a.expected, int64(d.below(1001))), append(a.found, int64(d.below(1001)))
	}
	if d.below(10) == 0 && owners > 0 {
		list := [][]int64{a.expected, a.found}[d.below(2)]
		list[d.below(owners)] = anyOf(d, 1001)
	}
	if d.below(10) == 0 {
		a.found = a.found[:d.below(owners+1)]
	}
	if d.below(10) == 0 {
		a.stitches = wrongStitches()[d.below(len(wrongStitches()))]
	}
	if d.below(10) == 0 {
		wrong := impl.Mark(1) << (stitches + d.below(16-stitches))
		switch d.below(4) {
		case 0:
			a.m ^= wrong
		case 1:
			a.seen ^= wrong
		case 2:
			a.list = append(a.list, wrong)
		case 3:
			a.pile = append(a.pile, wrong)
		}
	}
	return a
}

func TestEveryArgumentOfMarks(t *testing.T) {
	d := dice(106)
	checkEvery(t, allMarks, func() marked { return anyMarked(&d) })
}

func TestLongListsOfMarks(t *testing.T) {
	long, late := make([]impl.Mark, 1000000), make([]impl.Mark, 1000000)
	late[999999] = 16
	gets(t, rightMarked, withLists, "a long list", impl.ErrLimit, setMarks(long...))
	gets(t, rightMarked, withLists, "a long list, invalid at its end", impl.ErrInvalid, setMarks(late...))
	gets(t, rightMarked, []deed[marked]{sortByMarks}, "much is seen", impl.ErrLimit, setPileOf(long...))
	gets(t, rightMarked, []deed[marked]{sortByMarks}, "much is seen, invalid at its end", impl.ErrInvalid, setPileOf(late...))
	gets(t, rightMarked, []deed[marked]{missingBy}, "many owners", impl.ErrRange, setThingsOf(make([]int64, 500000), make([]int64, 500000)))
}
