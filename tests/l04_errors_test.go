package tests

import (
	"fmt"
	"math"
	"slices"
	"testing"

	"loop.example/g01378/impl"
)

// shelved are the arguments of a call about sheets; each function takes those that it has.
type shelved struct {
	s, other           impl.Sheet
	fold               int64
	folds              []int64
	wide, deep, layers int64
}

// stored are the arguments of a call about cupboards.
type stored struct {
	c                  [][]int64
	sheet, pile, takes int64
}

var (
	foldSheet     = deed[shelved]{"FoldSheet", "{0 0 0}", func(a shelved) (string, int64) { return text1(impl.FoldSheet(a.s, a.fold)) }}
	foldAll       = deed[shelved]{"FoldAll", "{0 0 0}", func(a shelved) (string, int64) { return text1(impl.FoldAll(a.s, a.folds)) }}
	foldsPossible = deed[shelved]{"FoldsPossible", "[]", func(a shelved) (string, int64) { return text1(impl.FoldsPossible(a.s)) }}
	areaOf        = deed[shelved]{"AreaOf", "0", func(a shelved) (string, int64) { return text1(impl.AreaOf(a.s)) }}
	unfoldSheet   = deed[shelved]{"UnfoldSheet", "{0 0 0}", func(a shelved) (string, int64) { return text1(impl.UnfoldSheet(a.s, a.fold)) }}
	edgesAfter    = deed[shelved]{"EdgesAfter", "[0 0 0 0]", func(a shelved) (string, int64) { return text1(impl.EdgesAfter(a.folds)) }}
	fitsShelf     = deed[shelved]{"FitsShelf", "false", func(a shelved) (string, int64) { return text1(impl.FitsShelf(a.s, a.wide, a.deep, a.layers)) }}
	fewestFolds   = deed[shelved]{"FewestFolds", "[]", func(a shelved) (string, int64) {
		return text1(impl.FewestFolds(a.s, a.wide, a.deep, a.layers))
	}}
	smallestFor = deed[shelved]{"SmallestFor", "[] {0 0 0}", func(a shelved) (string, int64) { return text2(impl.SmallestFor(a.s, a.layers)) }}
	sameFolded  = deed[shelved]{"SameFolded", "false", func(a shelved) (string, int64) { return text1(impl.SameFolded(a.s, a.other)) }}
	withSheet   = []deed[shelved]{foldSheet, foldAll, foldsPossible, areaOf, unfoldSheet, fitsShelf, fewestFolds, smallestFor, sameFolded}
	withFold    = []deed[shelved]{foldSheet, unfoldSheet}
	withFolds   = []deed[shelved]{foldAll, edgesAfter}
	withShelf   = []deed[shelved]{fitsShelf, fewestFolds}
	withLayers  = []deed[shelved]{fitsShelf, fewestFolds, smallestFor}
	allFoldings = append([]deed[shelved]{edgesAfter}, withSheet...)
)

var (
	putSheet      = deed[stored]{"PutSheet", "[] 0", func(a stored) (string, int64) { return text2(impl.PutSheet(a.c, a.sheet)) }}
	takeSheet     = deed[stored]{"TakeSheet", "[] 0", func(a stored) (string, int64) { return text2(impl.TakeSheet(a.c, a.pile)) }}
	findSheet     = deed[stored]{"FindSheet", "0 0", func(a stored) (string, int64) { return text2(impl.FindSheet(a.c, a.sheet)) }}
	oldestFirst   = deed[stored]{"OldestFirst", "[] []", func(a stored) (string, int64) { return text2(impl.OldestFirst(a.c, a.takes)) }}
	levelCupboard = deed[stored]{"LevelCupboard", "[] 0", func(a stored) (string, int64) { return text2(impl.LevelCupboard(a.c)) }}
	allCupboards  = []deed[stored]{putSheet, takeSheet, findSheet, oldestFirst, levelCupboard}
)

// rightShelved has arguments with which all functions return OK.
func rightShelved() shelved {
	return shelved{sheet(36, 24, 2), sheet(24, 36, 2), 0, []int64{0, 2}, 12, 10, 18}
}

// rightStored has arguments with which all functions return OK, but FindSheet: what can be put is not there.
func rightStored() stored {
	return stored{[][]int64{{1, 2}, {3}}, 4, 0, 2}
}

func setSheet(s impl.Sheet) func(a *shelved)   { return func(a *shelved) { a.s = s } }
func setFold(fold int64) func(a *shelved)      { return func(a *shelved) { a.fold = fold } }
func setFolds(folds ...int64) func(a *shelved) { return func(a *shelved) { a.folds = folds } }
func setLayers(layers int64) func(a *shelved)  { return func(a *shelved) { a.layers = layers } }
func setCupboard(c [][]int64) func(a *stored)  { return func(a *stored) { a.c = c } }
func setStored(sheet int64) func(a *stored)    { return func(a *stored) { a.sheet = sheet } }
func setPile(pile int64) func(a *stored)       { return func(a *stored) { a.pile = pile } }
func setTakes(takes int64) func(a *stored)     { return func(a *stored) { a.takes = takes } }
func setShelf(wide, deep int64) func(a *shelved) {
	return func(a *shelved) { a.wide, a.deep = wide, deep }
}

func TestAllFoldingsRight(t *testing.T) {
	gets(t, rightShelved, allFoldings, "right", impl.OK)
	gets(t, rightShelved, allFoldings, "no folds", impl.OK, setFolds())
	gets(t, rightStored, []deed[stored]{putSheet, takeSheet, oldestFirst, levelCupboard}, "right", impl.OK)
	gets(t, rightStored, []deed[stored]{findSheet}, "right", impl.OK, setStored(3))
}

func TestInvalidSheets(t *testing.T) {
	for _, s := range wrongSheets() {
		gets(t, rightShelved, withSheet, fmt.Sprint(s), impl.ErrInvalid, setSheet(s))
		gets(t, rightShelved, []deed[shelved]{sameFolded}, fmt.Sprint("the other one ", s), impl.ErrInvalid, func(a *shelved) { a.other = s })
		gets(t, rightShelved, []deed[shelved]{sameFolded}, fmt.Sprint("both ", s), impl.ErrInvalid, func(a *shelved) { a.s, a.other = s, s })
	}
	limits := []deed[shelved]{foldsPossible, areaOf, fitsShelf, sameFolded}
	for _, s := range []impl.Sheet{sheet(1, 1, 1), sheet(1296, 1296, 144), sheet(1, 1296, 144), sheet(1296, 1, 1)} {
		gets(t, rightShelved, limits, fmt.Sprint(s), impl.OK, setSheet(s))
	}
}

func TestFoldsThatAreNone(t *testing.T) {
	for _, n := range noFolds() {
		gets(t, rightShelved, withFold, fmt.Sprint("the fold ", n), impl.ErrRange, setFold(n))
		for at := range 3 {
			gets(t, rightShelved, withFolds, fmt.Sprint("the fold ", n), impl.ErrRange, func(a *shelved) { a.folds = slices.Insert(a.folds, at, n) })
		}
		gets(t, rightShelved, []deed[shelved]{edgesAfter}, "the last one of twelve", impl.ErrRange, setFolds(append(make([]int64, 11), n)...))
	}
}

func TestFoldsUpToMaxFolds(t *testing.T) {
	edges := []deed[shelved]{edgesAfter}
	for fold := range int64(4) {
		folds := slices.Repeat([]int64{fold}, 12)
		gets(t, rightShelved, edges, "twelve", impl.OK, setFolds(folds...))
		gets(t, rightShelved, withFolds, "thirteen", impl.ErrLimit, setFolds(append(folds, fold)...))
		gets(t, rightShelved, []deed[shelved]{foldAll}, "twelve", impl.ErrState, setFolds(folds...), setSheet(sheet(35, 25, 1)))
	}
	gets(t, rightShelved, withFolds, "thirteen, and none among them", impl.ErrLimit, setFolds(append(make([]int64, 12), 4)...))
	gets(t, rightShelved, withFolds, "thirteen that are none", impl.ErrLimit, setFolds(slices.Repeat([]int64{-1}, 13)...))
}

// TestErrorOfTheFirstFold tells that folds are looked at one by one.
func TestErrorOfTheFirstFold(t *testing.T) {
	all := []deed[shelved]{foldAll}
	gets(t, rightShelved, all, "a side, then none", impl.ErrState, setFolds(2, 2, 2, 4))
	gets(t, rightShelved, all, "none, then a side", impl.ErrRange, setFolds(4, 2, 2, 2))
	gets(t, rightShelved, all, "layers, then none", impl.ErrLimit, setFolds(0, 4), setSheet(sheet(36, 24, 144)))
	gets(t, rightShelved, all, "none, then layers", impl.ErrRange, setFolds(4, 0), setSheet(sheet(36, 24, 144)))
	gets(t, rightShelved, all, "layers, then a side", impl.ErrLimit, setFolds(0, 1), setSheet(sheet(36, 25, 73)))
	gets(t, rightShelved, all, "a side, then layers", impl.ErrState, setFolds(1, 0), setSheet(sheet(36, 25, 73)))
}

func TestShelvesThatAreNone(t *testing.T) {
	for _, n := range []int64{0, -1, 1297, 1298, -1296, 1 << 16, 1<<16 + 12, 1<<32 + 12, math.MaxInt64, math.MinInt64} {
		gets(t, rightShelved, withShelf, fmt.Sprint("wide ", n), impl.ErrRange, setShelf(n, 10))
		gets(t, rightShelved, withShelf, fmt.Sprint("deep ", n), impl.ErrRange, setShelf(12, n))
		gets(t, rightShelved, withLayers, fmt.Sprint("layers ", n), impl.ErrRange, setLayers(n))
		gets(t, rightShelved, withLayers, fmt.Sprint("all ", n), impl.ErrRange, setLayers(n), setShelf(n, n))
	}
	for _, n := range []int64{1, 2, 1295, 1296} {
		gets(t, rightShelved, []deed[shelved]{fitsShelf}, fmt.Sprint(n), impl.OK, setShelf(n, 10))
		gets(t, rightShelved, []deed[shelved]{fitsShelf}, fmt.Sprint(n), impl.OK, setShelf(10, n))
		gets(t, rightShelved, []deed[shelved]{fitsShelf}, fmt.Sprint(n), impl.OK, setLayers(n))
	}
	smallest := []deed[shelved]{smallestFor}
	gets(t, rightShelved, withShelf, "more layers than a sheet has", impl.OK, setLayers(145))
	gets(t, rightShelved, smallest, "more layers than a sheet has", impl.ErrRange, setLayers(145))
	gets(t, rightShelved, smallest, "as many layers as a sheet has", impl.OK, setLayers(144))
	gets(t, rightShelved, smallest, "one layer", impl.OK, setLayers(1), setSheet(sheet(36, 24, 1)))
	gets(t, rightShelved, smallest, "fewer layers", impl.ErrNotFound, setLayers(1))
	gets(t, rightShelved, smallest, "fewer layers", impl.ErrNotFound, setLayers(143), setSheet(sheet(36, 24, 144)))
}

// TestOrderOfErrorsOfFolding makes several errors at once: the one that the document lists first counts.
func TestOrderOfErrorsOfFolding(t *testing.T) {
	none, wrong := setFold(4), setSheet(sheet(36, 0, 145))
	many := setFolds(slices.Repeat([]int64{7}, 13)...)
	gets(t, rightShelved, withSheet, "an invalid sheet before the rest", impl.ErrInvalid, wrong, none, many, setShelf(0, 0), setLayers(0))
	gets(t, rightShelved, withSheet, "an invalid sheet before state", impl.ErrInvalid, setSheet(sheet(35, 25, 145)))
	gets(t, rightShelved, withFold, "range before state", impl.ErrRange, none, setSheet(sheet(35, 25, 1)))
	gets(t, rightShelved, withFold, "range before limit", impl.ErrRange, none, setSheet(sheet(1296, 1296, 144)))
	gets(t, rightShelved, []deed[shelved]{foldSheet}, "state before limit", impl.ErrState, setSheet(sheet(35, 25, 144)))
	gets(t, rightShelved, []deed[shelved]{unfoldSheet}, "state before limit", impl.ErrState, setSheet(sheet(1296, 1296, 143)))
	gets(t, rightShelved, []deed[shelved]{foldSheet, unfoldSheet}, "limit", impl.ErrLimit, setSheet(sheet(1296, 1296, 144)))
	gets(t, rightShelved, []deed[shelved]{fewestFolds}, "range before what is not found", impl.ErrRange, setShelf(1, 1297), setLayers(1))
	gets(t, rightShelved, []deed[shelved]{fewestFolds}, "not found", impl.ErrNotFound, setShelf(1, 1), setLayers(1))
	gets(t, rightShelved, []deed[shelved]{smallestFor}, "range before what is not found", impl.ErrRange, setLayers(0))
}

func TestInvalidCupboards(t *testing.T) {
	for _, c := range wrongCupboards() {
		gets(t, rightStored, allCupboards, fmt.Sprint(c), impl.ErrInvalid, setCupboard(c))
		for _, n := range []int64{-1, 1000} {
			gets(t, rightStored, allCupboards, fmt.Sprint(c, n), impl.ErrInvalid, setCupboard(c), setStored(n), setPile(n), setTakes(n))
		}
	}
}

func TestOrderOfErrorsOfCupboards(t *testing.T) {
	put, take, oldest := []deed[stored]{putSheet}, []deed[stored]{takeSheet}, []deed[stored]{oldestFirst}
	full := setCupboard(cupboardWith(0, 8, 8, 8, 8, 8, 8))
	for _, n := range []int64{-1, 1000, 1001, -999, 1 << 16, 1<<32 + 4, math.MaxInt64, math.MinInt64} {
		gets(t, rightStored, put, fmt.Sprint("the sheet ", n), impl.ErrRange, setStored(n))
		gets(t, rightStored, put, fmt.Sprint("range before limit ", n), impl.ErrRange, setStored(n), full)
		gets(t, rightStored, []deed[stored]{findSheet}, fmt.Sprint("the sheet ", n), impl.ErrNotFound, setStored(n))
	}
	for _, n := range []int64{0, 999} {
		gets(t, rightStored, put, fmt.Sprint("the sheet ", n), impl.OK, setStored(n))
	}
	gets(t, rightStored, put, "state before limit", impl.ErrState, full, setStored(47))
	gets(t, rightStored, put, "limit", impl.ErrLimit, full, setStored(48))
	for _, n := range []int64{-1, 2, 3, 6, 1 << 32, 256, math.MaxInt64, math.MinInt64} {
		gets(t, rightStored, take, fmt.Sprint("the pile ", n), impl.ErrRange, setPile(n))
		gets(t, rightStored, take, fmt.Sprint("range before what is not found ", n), impl.ErrRange, setPile(n), setCupboard(make([][]int64, 2)))
	}
	gets(t, rightStored, take, "an empty pile", impl.ErrNotFound, setPile(1), setCupboard([][]int64{{1}, {}}))
	for _, n := range []int64{-1, -2, -1 << 32, math.MinInt64} {
		gets(t, rightStored, oldest, fmt.Sprint("takes ", n), impl.ErrRange, setTakes(n))
		gets(t, rightStored, oldest, fmt.Sprint("no sheets, takes ", n), impl.ErrRange, setTakes(n), setCupboard([][]int64{{}}))
	}
	for _, n := range []int64{4, 5, 48, 49, 1 << 32, math.MaxInt64} {
		gets(t, rightStored, oldest, fmt.Sprint("takes ", n), impl.ErrNotFound, setTakes(n))
	}
	gets(t, rightStored, oldest, "all", impl.OK, setTakes(48), full)
	gets(t, rightStored, oldest, "one more", impl.ErrNotFound, setTakes(49), full)
}

// anyShelved returns arguments that are mostly right for some of the functions, and wrong for others.
func anyShelved(d *dice) shelved {
	a := shelved{s: d.sheet(), fold: int64(d.below(4)), folds: d.anyFolds(d.below(5))}
	if d.below(10) == 0 {
		a.s = wrongSheets()[d.below(len(wrongSheets()))]
	}
	a.other = []impl.Sheet{a.s, sheet(a.s.High, a.s.Wide, a.s.Layers), d.sheet(), {}}[d.below(4)]
	if d.below(10) == 0 {
		a.fold = noFolds()[d.below(len(noFolds()))]
	}
	if d.below(10) == 0 {
		a.folds = append(d.anyFolds(d.below(14)), a.fold)
	}
	number := func(most int) int64 { return anyOf(d, 1+most) }
	a.wide, a.deep, a.layers = number(1297), number(1297), number(145)
	return a
}

func anyStored(d *dice) stored {
	a := stored{c: d.cupboard(), sheet: anyOf(d, 1000), pile: anyOf(d, 7), takes: anyOf(d, 20)}
	if all := sheetsOf(a.c); len(all) > 0 && d.below(3) == 0 {
		a.sheet = all[d.below(len(all))]
	}
	if d.below(10) == 0 {
		a.c = wrongCupboards()[d.below(len(wrongCupboards()))]
	}
	return a
}

// checkEvery calls all functions with any arguments: they return, with a code that can be.
func checkEvery[A any](t *testing.T, calls []deed[A], any func() A) {
	t.Helper()
	codes := []int64{impl.OK, impl.ErrInvalid, impl.ErrRange, impl.ErrLimit, impl.ErrState, impl.ErrNotFound}
	right := map[string]int{}
	for range 5000 {
		a := any()
		for _, c := range calls {
			text, code := c.make(a)
			if !slices.Contains(codes, code) || code != impl.OK && text != c.zero {
				t.Fatalf("%s %v: %s %d", c.name, a, text, code)
			}
			if code == impl.OK {
				right[c.name]++
			}
		}
	}
	for _, c := range calls {
		if right[c.name] < 200 {
			t.Errorf("%s returns OK only %d times", c.name, right[c.name])
		}
	}
}

func TestEveryArgumentOfFolding(t *testing.T) {
	d := dice(70)
	checkEvery(t, allFoldings, func() shelved { return anyShelved(&d) })
	checkEvery(t, allCupboards, func() stored { return anyStored(&d) })
}

func TestLongListsOfFoldsAndSheets(t *testing.T) {
	long := make([]int64, 1000000)
	gets(t, rightShelved, withFolds, "a long list", impl.ErrLimit, setFolds(long...))
	is(t, "a long list", "", impl.FoldsText(long))
	for _, c := range [][][]int64{make([][]int64, 1000000), {long}, {{1}, {2}, long}, slices.Repeat([][]int64{{1}}, 1000000), {{}, {}, {}, {}, {}, {}, long}} {
		gets(t, rightStored, allCupboards, "a large cupboard", impl.ErrInvalid, setCupboard(c))
		is(t, "a large cupboard", "false ", impl.ValidCupboard(c), impl.CupboardText(c))
	}
}
