package tests

import (
	"fmt"
	"slices"
	"testing"

	"loop.example/g01378/impl"
)

func TestLimitsOfFolding(t *testing.T) {
	is(t, "limits", "1296 144 12 6 8", impl.MaxSide, impl.MaxLayers, impl.MaxFolds, impl.MaxPiles, impl.MaxPile)
	is(t, "folds", "0 1 2 3", impl.FoHalfWide, impl.FoHalfHigh, impl.FoThirdWide, impl.FoThirdHigh)
}

func TestValidSheet(t *testing.T) {
	for _, s := range []impl.Sheet{sheet(1, 1, 1), sheet(1296, 1, 1), sheet(1, 1296, 1), sheet(1, 1, 144), sheet(1296, 1296, 144), sheet(36, 24, 5)} {
		if !impl.ValidSheet(s) {
			t.Errorf("not valid: %v", s)
		}
	}
	for _, s := range wrongSheets() {
		if impl.ValidSheet(s) {
			t.Errorf("valid: %v", s)
		}
	}
}

func TestExampleOfFolding(t *testing.T) {
	s := sheet(36, 24, 1)
	half, code := impl.FoldAll(s, readFolds(t, "w"))
	is(t, "w", "{18 24 2} 0", half, code)
	six, code := impl.FoldAll(s, readFolds(t, "wW"))
	is(t, "wW", "{6 24 6} 0", six, code)
	edges, code := impl.EdgesAfter(readFolds(t, "wW"))
	is(t, "edges", "[0 2 6 6] 0", edges, code)
	few, code := impl.FewestFolds(s, 12, 10, 12)
	is(t, "shelf", "WH 0", impl.FoldsText(few), code)
	nine, code := impl.FoldAll(s, few)
	is(t, "WH", "{12 8 9} 0", nine, code)
}

func readFolds(t *testing.T, text string) []int64 {
	t.Helper()
	folds, code := impl.ReadFolds(text)
	if code != impl.OK {
		t.Fatalf("%q: %d", text, code)
	}
	return folds
}

func TestFoldSheet(t *testing.T) {
	for _, c := range []struct {
		s    impl.Sheet
		want [4]string
	}{
		{sheet(36, 24, 1), [4]string{"{18 24 2} 0", "{36 12 2} 0", "{12 24 3} 0", "{36 8 3} 0"}},
		{sheet(24, 36, 5), [4]string{"{12 36 10} 0", "{24 18 10} 0", "{8 36 15} 0", "{24 12 15} 0"}},
		{sheet(1296, 1296, 1), [4]string{"{648 1296 2} 0", "{1296 648 2} 0", "{432 1296 3} 0", "{1296 432 3} 0"}},
		{sheet(1, 1, 1), [4]string{"{0 0 0} 4", "{0 0 0} 4", "{0 0 0} 4", "{0 0 0} 4"}},
		{sheet(2, 3, 1), [4]string{"{1 3 2} 0", "{0 0 0} 4", "{0 0 0} 4", "{2 1 3} 0"}}, // 3 by 2, and 2 by 3
		{sheet(3, 2, 1), [4]string{"{0 0 0} 4", "{3 1 2} 0", "{1 2 3} 0", "{0 0 0} 4"}},
		{sheet(35, 25, 1), [4]string{"{0 0 0} 4", "{0 0 0} 4", "{0 0 0} 4", "{0 0 0} 4"}},
		{sheet(6, 6, 72), [4]string{"{3 6 144} 0", "{6 3 144} 0", "{0 0 0} 3", "{0 0 0} 3"}}, // 144 layers, and 216
		{sheet(6, 6, 73), [4]string{"{0 0 0} 3", "{0 0 0} 3", "{0 0 0} 3", "{0 0 0} 3"}},
		{sheet(6, 6, 48), [4]string{"{3 6 96} 0", "{6 3 96} 0", "{2 6 144} 0", "{6 2 144} 0"}},
		{sheet(6, 6, 49), [4]string{"{3 6 98} 0", "{6 3 98} 0", "{0 0 0} 3", "{0 0 0} 3"}},
		{sheet(6, 6, 144), [4]string{"{0 0 0} 3", "{0 0 0} 3", "{0 0 0} 3", "{0 0 0} 3"}},
		{sheet(5, 7, 144), [4]string{"{0 0 0} 4", "{0 0 0} 4", "{0 0 0} 4", "{0 0 0} 4"}}, // the side before the layers
		{sheet(2, 3, 144), [4]string{"{0 0 0} 3", "{0 0 0} 4", "{0 0 0} 4", "{0 0 0} 3"}},
	} {
		for fold, want := range c.want {
			got, code := impl.FoldSheet(c.s, int64(fold))
			is(t, fmt.Sprint(c.s, fold), want, got, code)
		}
	}
}

// everySheet calls use for valid sheets with all kinds of sides and layers.
func everySheet(use func(s impl.Sheet)) {
	for _, wide := range []int16{1, 2, 3, 4, 5, 6, 7, 12, 35, 36, 431, 432, 433, 647, 648, 649, 1294, 1295, 1296} {
		for _, high := range []int16{1, 2, 3, 6, 8, 9, 25, 432, 433, 648, 649, 1296} {
			for layers := int16(1); layers <= 144; layers++ {
				use(sheet(wide, high, layers))
			}
		}
	}
}

// TestFoldsKeepTheArea also tells that nothing but a side and the layers are changed.
func TestFoldsKeepTheArea(t *testing.T) {
	everySheet(func(s impl.Sheet) {
		area, code := impl.AreaOf(s)
		if area != int64(s.Wide)*int64(s.High)*int64(s.Layers) || code != impl.OK {
			t.Fatalf("%v: the area %d %d", s, area, code)
		}
		for fold := range int64(4) {
			got, code := impl.FoldSheet(s, fold)
			want, wantCode := naiveFold(s, fold)
			if got != want || code != wantCode {
				t.Fatalf("%v %d: got %v %d, want %v %d", s, fold, got, code, want, wantCode)
			}
			if code != impl.OK {
				continue
			}
			if behind, code := impl.AreaOf(got); behind != area || code != impl.OK || !impl.ValidSheet(got) {
				t.Fatalf("%v %d: %v with the area %d %d, and %d before", s, fold, got, behind, code, area)
			}
			if back, code := impl.UnfoldSheet(got, fold); back != s || code != impl.OK {
				t.Fatalf("%v %d: unfolded %v %d", s, fold, back, code)
			}
		}
	})
}

func TestUnfoldSheet(t *testing.T) {
	for _, c := range []struct {
		s    impl.Sheet
		want [4]string
	}{
		{sheet(6, 24, 6), [4]string{"{12 24 3} 0", "{6 48 3} 0", "{18 24 2} 0", "{6 72 2} 0"}},
		{sheet(6, 24, 1), [4]string{"{0 0 0} 4", "{0 0 0} 4", "{0 0 0} 4", "{0 0 0} 4"}},
		{sheet(6, 24, 2), [4]string{"{12 24 1} 0", "{6 48 1} 0", "{0 0 0} 4", "{0 0 0} 4"}},
		{sheet(6, 24, 3), [4]string{"{0 0 0} 4", "{0 0 0} 4", "{18 24 1} 0", "{6 72 1} 0"}},
		{sheet(1, 1, 144), [4]string{"{2 1 72} 0", "{1 2 72} 0", "{3 1 48} 0", "{1 3 48} 0"}},
		{sheet(648, 432, 6), [4]string{"{1296 432 3} 0", "{648 864 3} 0", "{0 0 0} 3", "{648 1296 2} 0"}}, // 1296, and 1944
		{sheet(432, 648, 6), [4]string{"{864 648 3} 0", "{432 1296 3} 0", "{1296 648 2} 0", "{0 0 0} 3"}},
		{sheet(649, 433, 6), [4]string{"{0 0 0} 3", "{649 866 3} 0", "{0 0 0} 3", "{0 0 0} 3"}}, // 1298, and 1299
		{sheet(433, 649, 6), [4]string{"{866 649 3} 0", "{0 0 0} 3", "{0 0 0} 3", "{0 0 0} 3"}},
		{sheet(1296, 1296, 144), [4]string{"{0 0 0} 3", "{0 0 0} 3", "{0 0 0} 3", "{0 0 0} 3"}},
		{sheet(1296, 1296, 143), [4]string{"{0 0 0} 4", "{0 0 0} 4", "{0 0 0} 4", "{0 0 0} 4"}}, // the layers before the side
		{sheet(1296, 1, 2), [4]string{"{0 0 0} 3", "{1296 2 1} 0", "{0 0 0} 4", "{0 0 0} 4"}},
	} {
		for fold, want := range c.want {
			got, code := impl.UnfoldSheet(c.s, int64(fold))
			is(t, fmt.Sprint(c.s, fold), want, got, code)
		}
	}
}

// TestUnfoldedSheets tells that there is a sheet if, and only if, the fold makes this one of it.
func TestUnfoldedSheets(t *testing.T) {
	everySheet(func(s impl.Sheet) {
		for fold := range int64(4) {
			parts := 2 + int16(fold/2)
			want, wantCode := sheet(s.Wide*parts, s.High, s.Layers/parts), int64(impl.OK)
			if fold%2 == 1 {
				want = sheet(s.Wide, s.High*parts, s.Layers/parts)
			}
			if want.Wide > 1296 || want.High > 1296 {
				want, wantCode = impl.Sheet{}, impl.ErrLimit
			}
			if s.Layers%parts != 0 {
				want, wantCode = impl.Sheet{}, impl.ErrState
			}
			got, code := impl.UnfoldSheet(s, fold)
			if got != want || code != wantCode {
				t.Fatalf("%v %d: got %v %d, want %v %d", s, fold, got, code, want, wantCode)
			}
			if code != impl.OK {
				continue
			}
			if again, code := impl.FoldSheet(got, fold); again != s || code != impl.OK {
				t.Fatalf("%v %d: folded again %v %d", s, fold, again, code)
			}
		}
	})
}

func TestFoldAll(t *testing.T) {
	for _, c := range []struct {
		s     impl.Sheet
		folds string
		want  string
	}{
		{sheet(36, 24, 1), "", "{36 24 1} 0"},
		{sheet(1, 1296, 144), "", "{1 1296 144} 0"},
		{sheet(36, 24, 1), "wW", "{6 24 6} 0"},
		{sheet(36, 24, 1), "Ww", "{6 24 6} 0"},
		{sheet(36, 24, 1), "wwWW", "{1 24 36} 0"},
		{sheet(36, 24, 1), "wwWWhh", "{1 6 144} 0"},
		{sheet(36, 24, 1), "wwWWhhh", "{0 0 0} 3"},
		{sheet(36, 24, 1), "wwWWhhw", "{0 0 0} 4"},
		{sheet(36, 24, 1), "www", "{0 0 0} 4"},
		{sheet(36, 24, 1), "HH", "{0 0 0} 4"},
		{sheet(1024, 1024, 1), "wwwwwww", "{8 1024 128} 0"},
		{sheet(1024, 1024, 1), "wwwwwwww", "{0 0 0} 3"},
		{sheet(1296, 1296, 1), "wwwwWW", "{9 1296 144} 0"},
		{sheet(1296, 1296, 1), "wwwwWWH", "{0 0 0} 3"},
		{sheet(1296, 1296, 1), "wwwww", "{0 0 0} 4"},
		{sheet(36, 24, 1), "wwwwwwwwwwww", "{0 0 0} 4"},
	} {
		got, code := impl.FoldAll(c.s, readFolds(t, c.folds))
		is(t, fmt.Sprint(c.s, c.folds), c.want, got, code)
	}
}

func TestSeveralFoldsKeepTheArea(t *testing.T) {
	d := dice(60)
	for range 20000 {
		s, folds := d.sheet(), d.anyFolds(d.below(14))
		if len(folds) > 0 && d.below(8) == 0 {
			folds[d.below(len(folds))] = noFolds()[d.below(len(noFolds()))]
		}
		got, code := impl.FoldAll(s, folds)
		want, wantCode := naiveFoldAll(s, folds)
		if got != want || code != wantCode {
			t.Fatalf("%v %v: got %v %d, want %v %d", s, folds, got, code, want, wantCode)
		}
		before, _ := impl.AreaOf(s)
		if behind, _ := impl.AreaOf(got); code == impl.OK && behind != before {
			t.Fatalf("%v %v: got %v, with %d and not %d", s, folds, got, behind, before)
		}
	}
}

func TestFoldsPossible(t *testing.T) {
	for _, c := range []struct {
		s    impl.Sheet
		want string
	}{
		{sheet(36, 24, 1), "[0 1 2 3] 0"},
		{sheet(1, 1, 1), "[] 0"},
		{sheet(2, 1, 1), "[0] 0"},
		{sheet(1, 2, 1), "[1] 0"},
		{sheet(3, 1, 1), "[2] 0"},
		{sheet(1, 3, 1), "[3] 0"},
		{sheet(3, 2, 1), "[1 2] 0"},
		{sheet(9, 4, 72), "[1] 0"},
		{sheet(6, 6, 48), "[0 1 2 3] 0"},
		{sheet(6, 6, 49), "[0 1] 0"},
		{sheet(6, 6, 72), "[0 1] 0"},
		{sheet(6, 6, 73), "[] 0"},
		{sheet(1296, 1296, 144), "[] 0"},
		{sheet(1295, 1295, 1), "[] 0"},
	} {
		got, code := impl.FoldsPossible(c.s)
		is(t, fmt.Sprint(c.s), c.want, got, code)
	}
	everySheet(func(s impl.Sheet) {
		var want []int64
		for fold := range int64(4) {
			if _, code := naiveFold(s, fold); code == impl.OK {
				want = append(want, fold)
			}
		}
		if got, code := impl.FoldsPossible(s); !slices.Equal(got, want) || code != impl.OK {
			t.Fatalf("%v: got %v %d, want %v", s, got, code, want)
		}
	})
}

func TestAreaOf(t *testing.T) {
	for s, want := range map[impl.Sheet]string{
		sheet(1, 1, 1): "1 0", sheet(36, 24, 1): "864 0", sheet(6, 24, 6): "864 0", sheet(1296, 1296, 144): "241864704 0", sheet(1296, 1, 1): "1296 0", sheet(1, 1, 144): "144 0",
	} {
		got, code := impl.AreaOf(s)
		is(t, fmt.Sprint(s), want, got, code)
	}
}

func TestEdgesAfter(t *testing.T) {
	for folds, want := range map[string]impl.Edges{
		"":   {1, 1, 1, 1},
		"w":  {2, 0, 2, 2},
		"h":  {2, 2, 2, 0},
		"W":  {1, 1, 3, 3},
		"H":  {3, 3, 1, 1},
		"ww": {2, 0, 4, 4},
		"hh": {4, 4, 2, 0},
		"wW": {0, 2, 6, 6}, // the third turns the ends
		"Ww": {2, 0, 6, 6},
		"hH": {6, 6, 0, 2},
		"Hh": {6, 6, 2, 0},
		"wh": {4, 0, 4, 0},
		"hw": {4, 0, 4, 0},
		"wH": {6, 0, 2, 2},
		"hW": {2, 2, 6, 0},
		"WH": {3, 3, 3, 3},

		"wWW":          {2, 0, 18, 18},
		"wWw":          {2, 0, 12, 12},
		"whWH":         {0, 12, 0, 12},
		"wwwwwwwwwwww": {2, 0, 4096, 4096},
		"hhhhhhhhhhhh": {4096, 4096, 2, 0},
		"WWWWWWWWWWWW": {1, 1, 531441, 531441},
		"HHHHHHHHHHHH": {531441, 531441, 1, 1},
		"wWWWWWWWWWWW": {0, 2, 354294, 354294},
	} {
		got, code := impl.EdgesAfter(readFolds(t, folds))
		if got != want || code != impl.OK {
			t.Errorf("%q: got %v %d, want %v", folds, got, code, want)
		}
	}
}

func TestEdgesOfClothLayers(t *testing.T) {
	for count := range 6 {
		everyFolds(count, func(folds []int64) {
			got, code := impl.EdgesAfter(folds)
			if want := naiveEdges(folds); got != want || code != impl.OK {
				t.Fatalf("%v: got %v %d, want %v", folds, got, code, want)
			}
		})
	}
}

func TestFitsShelf(t *testing.T) {
	for _, c := range []struct {
		s                  impl.Sheet
		wide, deep, layers int64
		want               bool
	}{
		{sheet(18, 24, 2), 18, 24, 2, true},
		{sheet(18, 24, 2), 24, 18, 2, true}, // turned
		{sheet(18, 24, 2), 24, 24, 2, true},
		{sheet(18, 24, 2), 17, 24, 2, false},
		{sheet(18, 24, 2), 18, 23, 2, false},
		{sheet(18, 24, 2), 24, 17, 2, false},
		{sheet(18, 24, 2), 23, 18, 2, false},
		{sheet(18, 24, 2), 23, 23, 2, false},
		{sheet(18, 24, 2), 1296, 17, 2, false},
		{sheet(18, 24, 2), 17, 1296, 2, false},
		{sheet(18, 24, 2), 18, 24, 1, false},
		{sheet(18, 24, 2), 1296, 1296, 1, false},
		{sheet(18, 24, 2), 1296, 1296, 1296, true},
		{sheet(24, 18, 2), 18, 24, 2, true},
		{sheet(1, 1, 1), 1, 1, 1, true},
		{sheet(1, 1, 2), 1, 1, 1, false},
		{sheet(2, 1, 1), 1, 1, 1, false},
		{sheet(1, 2, 1), 1, 1, 1, false},
		{sheet(1296, 1296, 144), 1296, 1296, 144, true},
		{sheet(1296, 1296, 144), 1296, 1296, 145, true}, // a shelf may hold more layers than a sheet may have
		{sheet(1296, 1296, 144), 1296, 1296, 143, false},
		{sheet(1296, 1296, 144), 1295, 1296, 144, false},
		{sheet(1296, 1296, 144), 1296, 1295, 144, false},
		{sheet(1, 1296, 1), 1296, 1, 1, true},
	} {
		got, code := impl.FitsShelf(c.s, c.wide, c.deep, c.layers)
		is(t, fmt.Sprint(c), fmt.Sprint(c.want, 0), got, code)
	}
}

func TestFewestFolds(t *testing.T) {
	for _, c := range []struct {
		s                  impl.Sheet
		wide, deep, layers int64
		want               string
	}{
		{sheet(36, 24, 1), 12, 10, 12, "WH 0"},
		{sheet(36, 24, 1), 36, 24, 1, " 0"}, // no folds
		{sheet(36, 24, 1), 24, 36, 1, " 0"}, // nor if it is turned
		{sheet(36, 24, 1), 1296, 1296, 1296, " 0"},
		{sheet(36, 24, 1), 18, 24, 2, "w 0"},
		{sheet(36, 24, 1), 24, 18, 2, "w 0"},
		{sheet(36, 24, 1), 36, 12, 2, "h 0"},
		{sheet(36, 24, 1), 12, 36, 2, "h 0"},
		{sheet(36, 24, 1), 30, 30, 2, "w 0"},
		{sheet(36, 24, 1), 35, 24, 1296, "w 0"}, // also by a third, but this comes later
		{sheet(36, 24, 1), 36, 18, 2, "w 0"},    // h as well, but w comes first, by which it is turned
		{sheet(36, 24, 1), 12, 24, 3, "W 0"},
		{sheet(36, 24, 1), 12, 24, 2, " 6"}, // too many layers
		{sheet(36, 24, 1), 35, 24, 1, " 6"},
		{sheet(36, 24, 1), 36, 8, 3, "H 0"},
		{sheet(36, 24, 1), 8, 36, 3, "H 0"},
		{sheet(36, 24, 1), 18, 12, 4, "wh 0"}, // W fits not, with 12 by 24
		{sheet(36, 24, 1), 9, 24, 4, "ww 0"},
		{sheet(36, 24, 1), 6, 24, 6, "wW 0"},
		{sheet(36, 24, 1), 6, 24, 5, " 6"},
		{sheet(36, 24, 1), 4, 24, 9, "WW 0"},
		{sheet(36, 24, 1), 1, 6, 144, "wwhhWW 0"},
		{sheet(36, 24, 1), 1, 5, 144, " 6"},
		{sheet(36, 24, 1), 1, 1, 1296, " 6"},
		{sheet(36, 24, 1), 2, 3, 144, "wwhhWH 0"}, // 3 by 2, and whhhWW, by which it is 2 by 3, comes later
		{sheet(1024, 1024, 1), 1024, 8, 1296, "wwwwwww 0"},
		{sheet(1024, 1024, 1), 1024, 7, 1296, " 6"},
		{sheet(1024, 1024, 1), 100, 100, 128, " 6"}, // 64 by 128 is the least
		{sheet(1024, 1024, 1), 64, 128, 128, "wwwwhhh 0"},
		{sheet(1024, 1024, 1), 128, 64, 128, "wwwwhhh 0"}, // wwwhhhh as well, but it comes later
		{sheet(35, 24, 72), 5, 5, 144, " 6"},
		{sheet(35, 25, 1), 34, 24, 1296, " 6"},
		{sheet(1, 1, 1), 1, 1, 1, " 0"},
		{sheet(1, 1, 144), 1, 1, 143, " 6"}, // folds make no fewer layers
		{sheet(6, 1, 72), 3, 1, 144, "w 0"},
		{sheet(6, 1, 72), 2, 1, 1296, " 6"}, // 216 layers, though the shelf holds them
	} {
		got, code := impl.FewestFolds(c.s, c.wide, c.deep, c.layers)
		is(t, fmt.Sprint(c), c.want, impl.FoldsText(got), code)
	}
}

// TestNoFewerFoldsFit holds the folds against all lists of folds in any order.
func TestNoFewerFoldsFit(t *testing.T) {
	d := dice(61)
	found := map[int]int{}
	for range 60 {
		s := d.sheet()
		all := everyCrease(s)
		for range 40 {
			wide, deep, layers := int64(1+d.below(int(s.Wide)+2)), int64(1+d.below(int(s.High)+2)), int64(1+d.below(160))
			if d.below(2) == 0 { // so that limits are reached exactly
				c := all[d.below(len(all))]
				wide, deep, layers = int64(c.s.High), int64(c.s.Wide), int64(c.s.Layers)+int64(d.below(3))/2
			}
			wide, deep = min(wide, 1296), min(deep, 1296)
			got, code := impl.FewestFolds(s, wide, deep, layers)
			i := slices.IndexFunc(all, func(c crease) bool { return naiveShelf(c.s, wide, deep, layers) })
			if i < 0 && (code != impl.ErrNotFound || len(got) != 0) {
				t.Fatalf("%v %d %d %d: got %v %d, want none", s, wide, deep, layers, got, code)
			}
			if i >= 0 && (code != impl.OK || !slices.Equal(got, all[i].folds)) {
				t.Fatalf("%v %d %d %d: got %v %d, want %v", s, wide, deep, layers, got, code, all[i].folds)
			}
			found[len(got)]++
		}
	}
	for count := range 6 {
		if found[count] == 0 {
			t.Errorf("no list with %d folds has been looked for: %v", count, found)
		}
	}
}

func TestWhatFoldsFitIsOnTheShelf(t *testing.T) {
	d := dice(62)
	for range 2000 {
		s, wide, deep, layers := d.sheet(), int64(1+d.below(200)), int64(1+d.below(200)), int64(1+d.below(160))
		folds, code := impl.FewestFolds(s, wide, deep, layers)
		if code != impl.OK {
			continue
		}
		folded, code := impl.FoldAll(s, folds)
		if fits, fitsCode := impl.FitsShelf(folded, wide, deep, layers); code != impl.OK || !fits || fitsCode != impl.OK {
			t.Fatalf("%v %v: %v %d does not fit %d %d %d", s, folds, folded, code, wide, deep, layers)
		}
	}
}

func TestSmallestFor(t *testing.T) {
	for _, c := range []struct {
		s      impl.Sheet
		layers int64
		want   string
	}{
		{sheet(36, 24, 1), 1, " {36 24 1} 0"},
		{sheet(36, 24, 1), 2, "w {18 24 2} 0"},
		{sheet(36, 24, 1), 3, "W {12 24 3} 0"},
		{sheet(36, 24, 1), 4, "ww {9 24 4} 0"},
		{sheet(36, 24, 1), 5, "ww {9 24 4} 0"},
		{sheet(36, 24, 1), 6, "wW {6 24 6} 0"}, // hH, wH and hW as well, but they come later
		{sheet(36, 24, 1), 7, "wW {6 24 6} 0"},
		{sheet(36, 24, 1), 8, "wwh {9 12 8} 0"},
		{sheet(36, 24, 1), 9, "WW {4 24 9} 0"},
		{sheet(36, 24, 1), 144, "wwhhWW {1 6 144} 0"},
		{sheet(36, 24, 1), 143, "wwWWH {1 8 108} 0"},
		{sheet(24, 35, 1), 2, "w {12 35 2} 0"},
		{sheet(35, 24, 1), 2, "h {35 12 2} 0"},
		{sheet(35, 24, 1), 3, "H {35 8 3} 0"},
		{sheet(35, 25, 1), 144, " {35 25 1} 0"},
		{sheet(1, 1, 1), 1, " {1 1 1} 0"},
		{sheet(1, 1, 144), 144, " {1 1 144} 0"},
		{sheet(1, 1, 144), 143, " {0 0 0} 6"},
		{sheet(36, 24, 2), 1, " {0 0 0} 6"},
		{sheet(36, 24, 72), 72, " {36 24 72} 0"},
		{sheet(36, 24, 72), 143, " {36 24 72} 0"},
		{sheet(36, 24, 72), 144, "w {18 24 144} 0"},
		{sheet(1024, 1024, 1), 144, "wwwwwww {8 1024 128} 0"},
		{sheet(1024, 1024, 1), 127, "wwwwww {16 1024 64} 0"},
		{sheet(2, 1024, 1), 144, "whhhhhh {1 16 128} 0"},
	} {
		got, s, code := impl.SmallestFor(c.s, c.layers)
		is(t, fmt.Sprint(c), c.want, impl.FoldsText(got), s, code)
	}
}

// TestNothingIsSmaller holds the folds against all lists of folds in any order.
func TestNothingIsSmaller(t *testing.T) {
	d := dice(63)
	for range 150 {
		s := d.sheet()
		all := everyCrease(s)
		for range 10 {
			layers := int64(1 + d.below(144))
			var best *crease
			for i, c := range all {
				if int64(c.s.Layers) > layers {
					continue
				}
				if best == nil || int64(c.s.Wide)*int64(c.s.High) < int64(best.s.Wide)*int64(best.s.High) {
					best = &all[i]
				}
			}
			got, small, code := impl.SmallestFor(s, layers)
			if best == nil {
				best = &crease{}
				if code != impl.ErrNotFound {
					t.Fatalf("%v %d: %d", s, layers, code)
				}
			} else if code != impl.OK {
				t.Fatalf("%v %d: %d", s, layers, code)
			}
			if !slices.Equal(got, best.folds) || small != best.s {
				t.Fatalf("%v %d: got %v %v, want %v", s, layers, got, small, *best)
			}
		}
	}
}

func TestSameFolded(t *testing.T) {
	for _, c := range []struct {
		a, b impl.Sheet
		want bool
	}{
		{sheet(18, 24, 2), sheet(18, 24, 2), true},
		{sheet(18, 24, 2), sheet(24, 18, 2), true},
		{sheet(24, 18, 2), sheet(18, 24, 2), true},
		{sheet(18, 18, 2), sheet(18, 18, 2), true},
		{sheet(18, 24, 2), sheet(18, 24, 1), false},
		{sheet(18, 24, 2), sheet(24, 18, 3), false},
		{sheet(18, 24, 2), sheet(18, 18, 2), false},
		{sheet(18, 24, 2), sheet(24, 24, 2), false},
		{sheet(18, 18, 2), sheet(18, 24, 2), false},
		{sheet(18, 24, 2), sheet(36, 12, 2), false}, // of the same area
		{sheet(18, 24, 2), sheet(17, 25, 2), false}, // of the same sum
		{sheet(18, 24, 2), sheet(2, 24, 18), false},
		{sheet(1, 1296, 144), sheet(1296, 1, 144), true},
		{sheet(1, 1296, 1), sheet(1296, 1296, 1), false},
		{sheet(1, 1, 1), sheet(1, 1, 1), true},
	} {
		got, code := impl.SameFolded(c.a, c.b)
		is(t, fmt.Sprint(c), fmt.Sprint(c.want, 0), got, code)
	}
}
