package tests

import (
	"fmt"
	"slices"
	"testing"

	"loop.example/g01378/impl"
)

// roomyCupboard returns a copy of a cupboard that has, as its piles have, unused capacity that is not zero.
func roomyCupboard(c [][]int64) [][]int64 {
	copied := roomy(c, []int64{77, 77})
	for i, pile := range c {
		copied[i] = roomy(pile, 77)
	}
	return copied
}

// keptCupboard tells a cupboard and its piles, with their unused capacity.
func keptCupboard(c [][]int64) string {
	text := fmt.Sprint(len(c), whole(c))
	for _, pile := range c {
		text += fmt.Sprint(len(pile), whole(pile))
	}
	return text
}

// The functions that have no code.
var (
	codelessFolding = deed[shelved]{"codeless", "", func(a shelved) (string, int64) {
		return fmt.Sprint(impl.ValidSheet(a.s), impl.FoldsText(a.folds)), impl.OK
	}}
	codelessCupboard = deed[stored]{"codeless", "", func(a stored) (string, int64) {
		return fmt.Sprint(impl.ValidCupboard(a.c), impl.CupboardText(a.c)), impl.OK
	}}
)

func TestNoArgumentOfFoldingIsChanged(t *testing.T) {
	d := dice(71)
	for range 2000 {
		a := anyShelved(&d)
		a.folds = roomy(a.folds, 77)
		before := fmt.Sprint(whole(a.folds))
		for _, c := range append(slices.Clone(allFoldings), codelessFolding) {
			c.make(a)
			if after := fmt.Sprint(whole(a.folds)); after != before {
				t.Fatalf("%s changes an argument: %s, and then %s", c.name, before, after)
			}
		}
	}
}

func TestNoCupboardIsChanged(t *testing.T) {
	d := dice(72)
	for range 3000 {
		a := anyStored(&d)
		a.c = roomyCupboard(a.c)
		before := keptCupboard(a.c)
		for _, c := range append(slices.Clone(allCupboards), codelessCupboard) {
			c.make(a)
			if after := keptCupboard(a.c); after != before {
				t.Fatalf("%s changes an argument: %s, and then %s", c.name, before, after)
			}
		}
	}
}

// TestPilesThatLieInOneList has piles each of which has the next one in its unused capacity.
func TestPilesThatLieInOneList(t *testing.T) {
	all := []int64{1, 2, 3, 4, 5, 6, 7, 8, 9}
	c := [][]int64{all[:1], all[1:1], all[1:6], all[6:]}
	got, pile, code := impl.PutSheet(c, 10)
	is(t, "put", "[[1] [10] [2 3 4 5 6] [7 8 9]] 1 0", got, pile, code)
	got, taken, code := impl.TakeSheet(c, 2)
	is(t, "take", "[[1] [] [3 4 5 6] [7 8 9]] 2 0", got, taken, code)
	list, rest, code := impl.OldestFirst(c, 4)
	is(t, "oldest", "[2 3 4 7] [[1] [] [5 6] [8 9]] 0", list, rest, code)
	got, moved, code := impl.LevelCupboard(c)
	is(t, "level", "[[1 5] [6 4] [2 3] [7 8 9]] 3 0", got, moved, code)
	is(t, "the list", "[1 2 3 4 5 6 7 8 9]", all)
}

// checkEqual makes calls with arguments, and again with equal ones that lie elsewhere.
func checkEqual[A any](t *testing.T, calls []deed[A], a, b A) {
	t.Helper()
	for _, c := range calls {
		text, code := c.make(a)
		for range 3 {
			if again, codeAgain := c.make(b); again != text || codeAgain != code {
				t.Fatalf("%s %v: %s %d, and then %s %d", c.name, a, text, code, again, codeAgain)
			}
		}
	}
}

func TestEqualArgumentsOfFoldingGetEqualResults(t *testing.T) {
	d := dice(73)
	for range 1000 {
		a := anyShelved(&d)
		b := a
		b.folds = roomy(a.folds, 1)
		checkEqual(t, append(slices.Clone(allFoldings), codelessFolding), a, b)
		c := anyStored(&d)
		other := c
		other.c = roomyCupboard(c.c)
		checkEqual(t, append(slices.Clone(allCupboards), codelessCupboard), c, other)
	}
	for range 3 {
		folds, code := impl.ReadFolds("wWhH")
		is(t, "read again", "[0 2 1 3] 0", folds, code)
		c, code := impl.ReadCupboard("1,2//3")
		is(t, "read again", "[[1 2] [] [3]] 0", c, code)
	}
}

func TestNilFoldsAndPilesAreAsEmpty(t *testing.T) {
	a, b := rightShelved(), rightShelved()
	a.folds, b.folds = nil, []int64{}
	checkEqual(t, append(slices.Clone(allFoldings), codelessFolding), a, b)
	for _, pair := range [][2][][]int64{{nil, {}}, {{nil}, {{}}}, {{nil, {1}}, {{}, {1}}}, {{{1}, nil, nil}, {{1}, {}, {}}}} {
		c, other := rightStored(), rightStored()
		c.c, other.c = pair[0], pair[1]
		checkEqual(t, append(slices.Clone(allCupboards), codelessCupboard), c, other)
	}
}

func TestResultsOfFoldingAreNew(t *testing.T) {
	s := sheet(36, 24, 1)
	fresh(t, "FoldsPossible", 99, func() []int64 { got, _ := impl.FoldsPossible(s); return got })
	fresh(t, "FewestFolds", 99, func() []int64 { got, _ := impl.FewestFolds(s, 12, 10, 12); return got })
	fresh(t, "SmallestFor", 99, func() []int64 { got, _, _ := impl.SmallestFor(s, 12); return got })
	fresh(t, "ReadFolds", 99, func() []int64 { got, _ := impl.ReadFolds("wWhH"); return got })
}

// spoil overwrites a list and its unused capacity.
func spoil[T any](list []T, spoilt T) {
	all := list[:cap(list)]
	for i := range all {
		all[i] = spoilt
	}
}

// freshCupboard checks that a cupboard is new memory, and that none of its piles has any of another one.
func freshCupboard(t *testing.T, name string, make func() [][]int64) {
	t.Helper()
	first := make()
	want := copyOf(first)
	for i := range first {
		spoil(first[i], 99)
		if !same(first[i+1:], want[i+1:]) {
			t.Errorf("%s: the pile %d shares memory with one behind it: %v", name, i, first)
		}
	}
	second := make()
	for i := range slices.Backward(second) {
		spoil(second[i], 99)
		if !same(second[:i], want[:i]) {
			t.Errorf("%s: the pile %d shares memory with one ahead of it: %v", name, i, second)
		}
	}
	spoil(second, nil)
	if third := make(); !same(third, want) {
		t.Errorf("%s: %v, and then %v", name, want, third)
	}
}

func TestResultsOfCupboardsAreNew(t *testing.T) {
	d := dice(74)
	for range 500 {
		c := roomyCupboard(d.cupboard())
		before, takes := keptCupboard(c), int64(d.below(1+len(sheetsOf(c))))
		unused := int64(0)
		for slices.Contains(sheetsOf(c), unused) {
			unused++
		}
		freshCupboard(t, "PutSheet", func() [][]int64 { got, _, _ := impl.PutSheet(c, unused); return got })
		for pile := range c {
			freshCupboard(t, "TakeSheet", func() [][]int64 { got, _, _ := impl.TakeSheet(c, int64(pile)); return got })
		}
		freshCupboard(t, "OldestFirst", func() [][]int64 { _, got, _ := impl.OldestFirst(c, takes); return got })
		freshCupboard(t, "LevelCupboard", func() [][]int64 { got, _, _ := impl.LevelCupboard(c); return got })
		freshCupboard(t, "ReadCupboard", func() [][]int64 { got, _ := impl.ReadCupboard(impl.CupboardText(c)); return got })
		checkTakenApart(t, c, takes)
		if after := keptCupboard(c); after != before {
			t.Fatalf("the argument: %s, and then %s", before, after)
		}
	}
}

// checkTakenApart checks that neither the sheets that have been taken nor the rest has any memory of the other one.
func checkTakenApart(t *testing.T, c [][]int64, takes int64) {
	t.Helper()
	taken, rest, _ := impl.OldestFirst(c, takes)
	want := copyOf(rest)
	spoil(taken, 99)
	if !same(rest, want) {
		t.Errorf("the rest has memory of the sheets that are taken: %v, and then %v", want, rest)
	}
	taken, rest, _ = impl.OldestFirst(c, takes)
	kept := slices.Clone(taken)
	for i := range rest {
		spoil(rest[i], 99)
	}
	if !slices.Equal(taken, kept) {
		t.Errorf("the sheets that are taken have memory of the rest: %v, and then %v", kept, taken)
	}
}
