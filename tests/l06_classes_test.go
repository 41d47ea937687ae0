package tests

import (
	"fmt"
	"slices"
	"strings"
	"testing"

	"loop.example/g01378/impl"
)

func TestClassOf(t *testing.T) {
	for _, c := range []struct{ text, want string }{
		{".", "0 0"},
		{"+", "1 0"},
		{"++", "0 0"}, // 3 modulo 3
		{"+.", "1 0"},
		{".+", "2 0"},
		{"+.+.", "4 0"},
		{"...+", "4 0"},
		{"++.+", "2 0"}, // 7 modulo 5
		{"++++", "0 0"},
		{"............", "0 0"},
		{"...........+", "12 0"},
		{"+..........+", "0 0"},
		{"++++++++++++", "0 0"}, // 78 modulo 13
		{".+++++++++++", "12 0"},
	} {
		class, code := impl.ClassOf(int64(len(c.text)), mark(c.text))
		is(t, c.text, c.want, class, code)
	}
}

// TestAllClasses holds the class of each mark, and the marks of each class, against those that are told naively.
func TestAllClasses(t *testing.T) {
	for stitches := 1; stitches <= 12; stitches++ {
		for m, text := range everyMark(stitches) {
			class, code := impl.ClassOf(int64(stitches), impl.Mark(m))
			if class != naiveClass(text) || code != impl.OK {
				t.Fatalf("%s: %d %d", text, class, code)
			}
		}
		for class := range int64(stitches + 1) {
			texts := naiveClassMarks(stitches, class)
			want := fmt.Sprint(texts, impl.OK)
			if len(texts) > 40 {
				want = "[] 3"
			}
			list, code := impl.ClassMarks(int64(stitches), class)
			is(t, fmt.Sprint("class ", class, " of ", stitches), want, stitchedAll(stitches, list), code)
		}
	}
}

// TestClassesAroundMaxMarks tells that all classes of 8 stitches have less than MaxMarks, and all of 9 more: none has just as many.
func TestClassesAroundMaxMarks(t *testing.T) {
	for class := range int64(10) {
		if class < 9 {
			list, code := impl.ClassMarks(8, class)
			is(t, "of 8", fmt.Sprint(len(naiveClassMarks(8, class)), " 0"), len(list), code)
		}
		list, code := impl.ClassMarks(9, class)
		is(t, "of 9", "[] 3", list, code)
	}
	list, code := impl.ClassMarks(8, 0)
	is(t, "the greatest class that can be told", "30 0", len(list), code)
}

// TestMarksOfAClassAreToldApart looks at classes as a whole, and at their marks as lists (promise 15).
func TestMarksOfAClassAreToldApart(t *testing.T) {
	for stitches := 1; stitches <= 12; stitches++ {
		for class := range int64(stitches + 1) {
			of := map[string]string{}
			texts := naiveClassMarks(stitches, class)
			for _, text := range texts {
				seen, _ := impl.LostFrom(int64(stitches), mark(text))
				for _, m := range seen {
					if other := of[stitched(stitches, m)]; other != "" {
						t.Errorf("%s is seen of %s and of %s", stitched(stitches, m), other, text)
					}
					of[stitched(stitches, m)] = text
				}
			}
			for some := range slices.Chunk(texts, 40) {
				apart, code := impl.CheckMarks(int64(stitches), marks(strings.Join(some, " ")))
				is(t, fmt.Sprint("class ", class, " of ", stitches), "true 0", apart, code)
			}
		}
	}
	for stitches := int64(1); stitches <= 8; stitches++ {
		for class := range stitches + 1 {
			list, _ := impl.ClassMarks(stitches, class)
			first, second, code := impl.FirstClash(stitches, list)
			is(t, "a clash", "0 0 6", first, second, code)
		}
	}
}

func TestBestClass(t *testing.T) {
	for i, most := range []int{1, 2, 2, 4, 6, 10, 16, 30, 52, 94, 172, 316} {
		class, count, code := impl.BestClass(int64(i + 1))
		is(t, fmt.Sprint(i+1, " stitches"), fmt.Sprint(0, most, 0), class, count, code)
	}
}

func TestNoClassHasMore(t *testing.T) {
	several := 0
	for stitches := 1; stitches <= 12; stitches++ {
		best, most, as := int64(0), 0, 0
		for class := range int64(stitches + 1) {
			switch count := len(naiveClassMarks(stitches, class)); {
			case count > most:
				best, most, as = class, count, 1
			case count == most:
				as++
			}
		}
		if as > 1 {
			several++
		}
		class, count, code := impl.BestClass(int64(stitches))
		is(t, fmt.Sprint(stitches, " stitches"), fmt.Sprint(best, most, 0), class, count, code)
	}
	if several < 4 {
		t.Error("several classes have seldom as many")
	}
}

func TestMendStitch(t *testing.T) {
	for _, c := range []struct {
		class      int64
		seen, want string
	}{
		{0, "....", ".... 0"}, // in its class already
		{0, "+..+", "+..+ 0"},
		{0, "++++", "++++ 0"},
		{0, "...+", "+..+ 0"}, // a stitch lacks
		{0, "+...", "+..+ 0"},
		{0, ".+..", ".++. 0"},
		{0, "..+.", ".++. 0"},
		{0, ".+++", "++++ 0"},
		{0, "+++.", "++++ 0"},
		{0, "++..", ".... 6"}, // this stitch is there
		{0, "..++", ".... 6"},
		{0, "+.+.", ".... 6"},
		{0, ".+.+", ".... 6"},
		{4, "....", "...+ 0"},
		{4, "+.+.", "+.+. 0"},
		{4, "+...", "+.+. 0"},
		{4, "..+.", "+.+. 0"},
		{4, "++++", ".... 6"},
		{1, "....", "+... 0"},
		{1, "++++", ".... 6"},
		{2, "..+.", "..++ 0"}, // 2 less 3, modulo 5, is 4
	} {
		m, code := impl.MendStitch(4, c.class, mark(c.seen))
		is(t, fmt.Sprint(c.class, " ", c.seen), c.want, stitched(4, m), code)
	}
	one, codeOfOne := impl.MendStitch(1, 1, 0)
	all, codeOfAll := impl.MendStitch(12, 0, 1<<11-1)
	is(t, "the first and the last stitch", "1 0 4095 0", one, codeOfOne, all, codeOfAll)
}

// TestAllMarksAreMended mends all that can be seen of a mark by its class (promise 14), and whatever else there is.
func TestAllMarksAreMended(t *testing.T) {
	for stitches := 1; stitches <= 12; stitches++ {
		for class := range int64(stitches + 1) {
			of := map[string]string{}
			for _, text := range naiveClassMarks(stitches, class) {
				for _, seen := range naiveSeen(text) {
					of[seen] = text
				}
			}
			for seen, text := range everyMark(stitches) {
				want, code := of[text], impl.OK
				if want == "" {
					want, code = stitched(stitches, 0), impl.ErrNotFound
				}
				m, got := impl.MendStitch(int64(stitches), class, impl.Mark(seen))
				if stitched(stitches, m) != want || got != int64(code) {
					t.Fatalf("%s by the class %d: %s %d, want %s %d", text, class, stitched(stitches, m), got, want, code)
				}
			}
		}
	}
}

func TestSortByMarks(t *testing.T) {
	class := ".... +..+ .++. ++++"
	for _, c := range []struct{ texts, seen, want string }{
		{"", "", "[] [] 0"},
		{"", ".... ++++", "[] [0 1] 0"},
		{"++++", "", "[[]] [] 0"},
		{class, "", "[[] [] [] []] [] 0"},
		{class, ".... +..+ .++. ++++", "[[0] [1] [2] [3]] [] 0"},
		{class, "++++ .++. +..+ ....", "[[3] [2] [1] [0]] [] 0"},
		{class, "...+ +... +..+ ...+", "[[] [0 1 2 3] [] []] [] 0"}, // several as the same mark
		{class, "++.. ...+ ..++ +..+ +.+.", "[[] [1 3] [] []] [0 2 4] 0"},
		{class, "++.. ++..", "[[] [] [] []] [0 1] 0"}, // none can be read
		{"++++ ..++ ++..", "...+ .... ..++ .+++", "[[3] [0 2] []] [1] 0"},
		{"++++", "++++ .... +++. ++.. ++++", "[[0 2 4]] [1 3] 0"},
		{"+... ++..", "", "[] [] 4"},
		{"++++ ++.. ++..", "++++", "[] [] 4"},
	} {
		sorted, unread, code := impl.SortByMarks(4, marks(c.texts), marks(c.seen))
		is(t, c.texts+", "+c.seen, c.want, sorted, unread, code)
	}
	forty := someApart(40)
	sorted, unread, code := impl.SortByMarks(12, forty, forty)
	is(t, "forty", "40 [] 0", len(sorted), unread, code)
	for i := range sorted {
		is(t, "each by itself", fmt.Sprint("[", i, "]"), sorted[i])
	}
}

// TestWhatIsSeenIsSortedOrCannotBeRead has each thing that is seen once, with its mark or with the rest (promise 16).
func TestWhatIsSeenIsSortedOrCannotBeRead(t *testing.T) {
	d := dice(103)
	right := 0
	for range 2000 {
		stitches := d.stitches()
		list := d.marks(stitches, d.below(20))
		seen := d.seenMarks(stitches, list, d.below(41))
		texts := stitchedAll(stitches, list)
		sorted, unread, code := impl.SortByMarks(int64(stitches), list, seen)
		if _, _, clash := naiveFirstClash(texts); clash {
			is(t, fmt.Sprint(texts), "[] [] 4", sorted, unread, code)
			continue
		}
		right++
		naive, rest := naiveSort(texts, stitchedAll(stitches, seen))
		if !same(sorted, naive) || !slices.Equal(unread, rest) || code != impl.OK {
			t.Fatalf("%v %v: %v %v %d, want %v %v", texts, seen, sorted, unread, code, naive, rest)
		}
		all := slices.Concat(append(sorted, unread)...)
		slices.Sort(all)
		for i, place := range all {
			if place != int64(i) || len(all) != len(seen) {
				t.Fatalf("%v: %v", seen, all)
			}
		}
		for i, m := range seen {
			place, code := impl.ReadStitches(int64(stitches), list, m)
			if code == impl.OK != (!slices.Contains(unread, int64(i)) && slices.Contains(sorted[place], int64(i))) {
				t.Fatalf("%v %v: the place %d of what is seen", texts, seen, i)
			}
		}
	}
	if right < 500 {
		t.Errorf("only %d lists are told apart", right)
	}
}

func TestMissingBy(t *testing.T) {
	for _, c := range []struct {
		expected, found []int64
		want            string
	}{
		{nil, nil, "[] 0"},
		{[]int64{3, 1}, []int64{1, 2}, "[2 0] 0"},
		{[]int64{3}, []int64{3}, "[0] 0"},
		{[]int64{3}, []int64{2}, "[1] 0"},
		{[]int64{3}, []int64{4}, "[0] 0"}, // more is found than expected
		{[]int64{0, 1000, 0, 1000}, []int64{1000, 0, 0, 1000}, "[0 1000 0 0] 0"},
		{[]int64{1, 2, 3}, []int64{0, 0, 0}, "[1 2 3] 0"},
		{[]int64{5, 5}, []int64{9, 1}, "[0 4] 0"}, // what is too much of one is not that of another one
		{[]int64{1001}, []int64{0}, "[] 2"},
		{[]int64{0}, []int64{1001}, "[] 2"},
		{[]int64{-1}, []int64{0}, "[] 2"},
		{[]int64{0}, []int64{-1}, "[] 2"},
		{[]int64{1}, nil, "[] 2"},
		{nil, []int64{1}, "[] 2"},
		{[]int64{1, 2}, []int64{1, 2, 3}, "[] 2"},
		{[]int64{1, 2, 3}, []int64{1, 2}, "[] 2"},
	} {
		missing, code := impl.MissingBy(c.expected, c.found)
		is(t, fmt.Sprint(c.expected, c.found), c.want, missing, code)
	}
}

func TestWhatIsMissing(t *testing.T) {
	d := dice(104)
	for range 1000 {
		owners := d.below(41)
		expected, found := make([]int64, owners), make([]int64, owners)
		var want []int64
		for i := range owners {
			expected[i], found[i] = int64(d.below(1001)), int64(d.below(1001))
			missing := int64(0)
			for n := found[i]; n < expected[i]; n++ {
				missing++
			}
			want = append(want, missing)
		}
		missing, code := impl.MissingBy(expected, found)
		is(t, fmt.Sprint(expected, found), fmt.Sprint(want, 0), missing, code)
	}
}

func TestLikelyLost(t *testing.T) {
	for _, c := range []struct{ texts, seen, want string }{
		{"", "....", "[] 0"},
		{"++++ ++.. +.+.", "+...", "[1 2] 0"}, // several have the fewest lost
		{"++++ ++.. +.+.", "++..", "[1] 0"},
		{"++++ ++.. +.+.", ".+.+", "[0] 0"}, // two lost
		{"++++ ++.. +.+.", "....", "[1 2] 0"},
		{"..++ ++.. ++++", "....", "[0 1] 0"},
		{"++++ ..++", "....", "[1] 0"}, // a later one has fewer
		{"..++ ++++", "....", "[0] 0"},
		{"++++", "....", "[0] 0"}, // all are lost
		{"++++ ++++", "....", "[0 1] 0"},
		{"....", "....", "[0] 0"},
		{".... ++++ ....", "....", "[0 2] 0"},
		{"+... +... ++.. +...", "+...", "[0 1 3] 0"}, // marks that are not told apart
		{".... +... ++..", "..+.", "[] 0"},           // none has all that is seen
		{"+++. .+++", "+..+", "[] 0"},
		{"+++. .+++ +.++ ++.+", "+..+", "[2 3] 0"},
		{"++++ +++. ++.. +...", "+...", "[3] 0"},
		{"+... ++.. +++. ++++", ".+..", "[1] 0"},
	} {
		places, code := impl.LikelyLost(4, marks(c.texts), mark(c.seen))
		is(t, c.texts+", "+c.seen, c.want, places, code)
	}
	for stitches := int64(1); stitches <= 12; stitches++ {
		places, code := impl.LikelyLost(stitches, []impl.Mark{1<<stitches - 1}, 0)
		is(t, "all are lost", "[0] 0", places, code)
	}
}

func TestNoneHasFewerLost(t *testing.T) {
	d := dice(105)
	some := 0
	for range 4000 {
		stitches := d.stitches()
		list := d.marks(stitches, d.below(20))
		if d.below(2) == 0 {
			list = d.seenMarks(stitches, nil, d.below(41))
		}
		seen := d.seen(stitches, list)
		want := naiveLikely(stitchedAll(stitches, list), stitched(stitches, seen))
		places, code := impl.LikelyLost(int64(stitches), list, seen)
		is(t, fmt.Sprint(list, seen), fmt.Sprint(want, 0), places, code)
		if len(places) > 1 {
			some++
		}
	}
	if some < 100 {
		t.Errorf("only %d times are there several", some)
	}
}
