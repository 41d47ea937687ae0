package tests

import (
	"fmt"
	"slices"
	"testing"

	"loop.example/g01378/impl"
)

func readCupboard(t *testing.T, text string) [][]int64 {
	t.Helper()
	c, code := impl.ReadCupboard(text)
	if code != impl.OK {
		t.Fatalf("%q: %d", text, code)
	}
	return c
}

// The texts of full piles.
const (
	full0 = "0,1,2,3,4,5,6,7"
	full1 = "10,11,12,13,14,15,16,17"
	full2 = "992,993,994,995,996,997,998,999"
)

func TestValidCupboard(t *testing.T) {
	for _, c := range [][][]int64{
		{{}}, {nil}, {{0}}, {{999}}, {{0, 999}}, {{0}, {999}}, make([][]int64, 6), cupboardWith(0, 8), cupboardWith(992, 8), cupboardWith(952, 8, 8, 8, 8, 8, 8),
		cupboardWith(1, 2, 1), cupboardWith(1, 0, 8, 0), {{5, 4, 3}, {}, {2, 1}},
	} {
		if !impl.ValidCupboard(c) {
			t.Errorf("not valid: %v", c)
		}
	}
	for _, c := range wrongCupboards() {
		if impl.ValidCupboard(c) {
			t.Errorf("valid: %v", c)
		}
	}
}

func TestPutSheet(t *testing.T) {
	for _, c := range []struct {
		c     string
		sheet int64
		want  string
	}{
		{"1,2/3", 4, "1,2/3,4 1 0"},
		{"3/1,2", 4, "3,4/1,2 0 0"},
		{"", 0, "0 0 0"},
		{"", 999, "999 0 0"},
		{"/", 4, "4/ 0 0"}, // the first one of several
		{"1/", 4, "1/4 1 0"},
		{"1//", 4, "1/4/ 1 0"},
		{"/1", 4, "4/1 0 0"},
		{"1/2/3", 4, "1,4/2/3 0 0"},
		{"1,5/2/3", 4, "1,5/2,4/3 1 0"},
		{"1,5/2,6/3", 4, "1,5/2,6/3,4 2 0"},
		{"/////", 4, "4///// 0 0"},
		{"1/2/3/5/6/", 4, "1/2/3/5/6/4 5 0"},
		{"1", 0, "1,0 0 0"}, // upon the others
		{"9,8,7,6,5,4,3", 2, "9,8,7,6,5,4,3,2 0 0"},
		{"9,8,7,6,5,4,3,2", 1, " 0 3"},
		{full0 + "/", 20, full0 + "/20 1 0"},
		{full0 + "/20,21,22,23,24,25,26", 27, full0 + "/20,21,22,23,24,25,26,27 1 0"},
		{full0 + "/" + full1, 20, " 0 3"},
		{full0 + "/" + full1, 17, " 0 4"}, // it is there already, and all are full
		{"1,2/3", 1, " 0 4"},
		{"1,2/3", 2, " 0 4"},
		{"1,2/3", 3, " 0 4"},
		{"0", 0, " 0 4"},
		{"1,2/999", 999, " 0 4"},
		{"1,2/3", -1, " 0 2"},
		{"1,2/3", 1000, " 0 2"},
		{full0, 1000, " 0 2"},
	} {
		got, pile, code := impl.PutSheet(readCupboard(t, c.c), c.sheet)
		is(t, fmt.Sprint(c.c, " ", c.sheet), c.want, impl.CupboardText(got), pile, code)
	}
}

func TestTakeSheet(t *testing.T) {
	for _, c := range []struct {
		c    string
		pile int64
		want string
	}{
		{"1,2/3", 0, "2/3 1 0"},
		{"1,2/3", 1, "1,2/ 3 0"},
		{"1,2/3", 2, " 0 2"},
		{"1,2/3", -1, " 0 2"},
		{"1,2/3", 1 << 32, " 0 2"},
		{"0", 0, " 0 0"}, // the sheet 0, and an empty pile is left
		{"999", 0, " 999 0"},
		{"", 0, " 0 6"},
		{"", 1, " 0 2"},
		{"1,2//3", 1, " 0 6"},
		{"1,2//3", 2, "1,2// 3 0"},
		{full0 + "/" + full2, 1, full0 + "/993,994,995,996,997,998,999 992 0"},
		{"7,5,9", 0, "5,9 7 0"}, // the lowest, not the least one
		{"/////5", 5, "///// 5 0"},
		{"/////5", 6, " 0 2"},
		{"/////5", 4, " 0 6"},
	} {
		got, sheet, code := impl.TakeSheet(readCupboard(t, c.c), c.pile)
		is(t, fmt.Sprint(c.c, " ", c.pile), c.want, impl.CupboardText(got), sheet, code)
	}
	got, _, _ := impl.TakeSheet([][]int64{{0}}, 0)
	is(t, "an empty pile is left", "[[]]", got)
}

func TestFindSheet(t *testing.T) {
	for _, c := range []struct {
		c     string
		sheet int64
		want  string
	}{
		{"1,2/3", 1, "0 0 0"},
		{"1,2/3", 2, "0 1 0"},
		{"1,2/3", 3, "1 0 0"},
		{"1,2/3", 4, "0 0 6"},
		{"1,2/3", 0, "0 0 6"},
		{"1,2/3", -1, "0 0 6"},
		{"1,2/3", 1000, "0 0 6"},
		{"1,2/3", 1<<32 + 1, "0 0 6"},
		{"", 0, "0 0 6"},
		{"/////" + full0, 7, "5 7 0"},
		{"/////" + full0, 0, "5 0 0"},
		{"0//999", 999, "2 0 0"},
	} {
		pile, below, code := impl.FindSheet(readCupboard(t, c.c), c.sheet)
		is(t, fmt.Sprint(c.c, " ", c.sheet), c.want, pile, below, code)
	}
}

func TestPutSheetsAreThereAndTakenOnesAreNot(t *testing.T) {
	d := dice(64)
	for range 5000 {
		c, sheet := d.cupboard(), int64(d.below(1000))
		if all := sheetsOf(c); len(all) > 0 && d.below(4) == 0 {
			sheet = all[d.below(len(all))]
		}
		checkPut(t, c, sheet)
		for pile := range c {
			checkTake(t, c, pile)
		}
	}
}

// checkPut puts a sheet that may be there already: it is there then, once, upon the first one of the lowest piles.
func checkPut(t *testing.T, c [][]int64, sheet int64) {
	t.Helper()
	got, pile, code := impl.PutSheet(c, sheet)
	low := naivePile(c, false)
	switch {
	case slices.Contains(sheetsOf(c), sheet):
		is(t, fmt.Sprint(c, sheet), "[] 0 4", got, pile, code)
		return
	case len(c[low]) == 8:
		is(t, fmt.Sprint(c, sheet), "[] 0 3", got, pile, code)
		return
	}
	want := copyOf(c)
	want[low] = append(want[low], sheet)
	if !same(got, want) || pile != int64(low) || code != impl.OK || !impl.ValidCupboard(got) {
		t.Fatalf("%v %d: got %v %d %d, want %v %d", c, sheet, got, pile, code, want, low)
	}
	where, below, code := impl.FindSheet(got, sheet)
	is(t, fmt.Sprint(c, sheet), fmt.Sprint(low, len(c[low]), 0), where, below, code)
}

// checkTake takes a sheet of a pile that may be empty: it was the lowest one, and is not there then.
func checkTake(t *testing.T, c [][]int64, pile int) {
	t.Helper()
	got, sheet, code := impl.TakeSheet(c, int64(pile))
	if len(c[pile]) == 0 {
		is(t, fmt.Sprint(c, pile), "[] 0 6", got, sheet, code)
		return
	}
	want := copyOf(c)
	want[pile] = want[pile][1:]
	if !same(got, want) || sheet != c[pile][0] || code != impl.OK || !impl.ValidCupboard(got) {
		t.Fatalf("%v %d: got %v %d %d, want %v %d", c, pile, got, sheet, code, want, c[pile][0])
	}
	where, below, code := impl.FindSheet(got, sheet)
	is(t, fmt.Sprint(c, pile), "0 0 6", where, below, code)
}

func TestFindEverySheet(t *testing.T) {
	d := dice(65)
	for range 300 {
		c := d.cupboard()
		for i, pile := range c {
			for k, sheet := range pile {
				where, below, code := impl.FindSheet(c, sheet)
				is(t, fmt.Sprint(c, sheet), fmt.Sprint(i, k, 0), where, below, code)
			}
		}
	}
}

func TestOldestFirst(t *testing.T) {
	for _, c := range []struct {
		c     string
		takes int64
		want  string
	}{
		{"1,2/3", 0, "[] 1,2/3 0"}, // no takes
		{"1,2/3", 1, "[1] 2/3 0"},
		{"1,2/3", 2, "[1 2] /3 0"}, // then both have one, and the first one counts
		{"1,2/3", 3, "[1 2 3] / 0"},
		{"1,2/3", 4, "[]  6"},
		{"1,2/3", -1, "[]  2"},
		{"1,2/3", 1<<63 - 1, "[]  6"},
		{"1,2/3", -1 << 63, "[]  2"},
		{"3/1,2", 2, "[1 3] /2 0"},
		{"1/2/3", 2, "[1 2] //3 0"},
		{"/2/3", 2, "[2 3] // 0"},
		{"", 0, "[]  0"},
		{"", 1, "[]  6"},
		{"//", 0, "[] // 0"},
		{"//", 1, "[]  6"},
		{full0, 8, "[0 1 2 3 4 5 6 7]  0"},
		{full0, 9, "[]  6"},
		{full0 + "/" + full1, 4, "[0 10 1 11] 2,3,4,5,6,7/12,13,14,15,16,17 0"},
		{"9,5,7/4,8/", 3, "[9 5 4] 7/8/ 0"},
	} {
		taken, rest, code := impl.OldestFirst(readCupboard(t, c.c), c.takes)
		is(t, fmt.Sprint(c.c, " ", c.takes), c.want, taken, impl.CupboardText(rest), code)
	}
	_, rest, _ := impl.OldestFirst([][]int64{{1}, {}}, 1)
	is(t, "empty piles are left", "[[] []]", rest)
}

func TestAllTakes(t *testing.T) {
	d := dice(66)
	for range 500 {
		c := d.cupboard()
		count := int64(len(sheetsOf(c)))
		for takes := range count + 1 {
			taken, rest, code := impl.OldestFirst(c, takes)
			want, wantRest := naiveOldest(c, takes)
			if !slices.Equal(taken, want) || !same(rest, wantRest) || code != impl.OK || !impl.ValidCupboard(rest) {
				t.Fatalf("%v %d: got %v %v %d, want %v %v", c, takes, taken, rest, code, want, wantRest)
			}
			for _, sheet := range taken {
				if _, _, code := impl.FindSheet(rest, sheet); code != impl.ErrNotFound {
					t.Fatalf("%v %d: %d is taken, but %v", c, takes, sheet, rest)
				}
			}
		}
		taken, rest, code := impl.OldestFirst(c, count+1)
		is(t, fmt.Sprint(c), "[] [] 6", taken, rest, code)
	}
}

func TestLevelCupboard(t *testing.T) {
	for c, want := range map[string]string{
		"1,2,3,4/":          "1,2/4,3 2 0",
		"/1,2,3,4":          "4,3/1,2 2 0",
		"1,2,3/":            "1,2/3 1 0", // they differ by 1 then
		"1,2/":              "1/2 1 0",
		"1/":                "1/ 0 0",
		"/1":                "/1 0 0",
		"":                  " 0 0",
		"/////":             "///// 0 0",
		"1,2,3":             "1,2,3 0 0",
		"1,2/3":             "1,2/3 0 0",
		"1,2/3,4":           "1,2/3,4 0 0",
		"1,2,3/4,5,6/":      "1,2/4,5/3,6 2 0", // of piles that are as high the first one counts
		"1,2,3,4//":         "1,2/4/3 2 0",
		"1,2,3,4,5//":       "1,2/5,3/4 3 0",
		"//1,2,3,4,5":       "5,3/4/1,2 3 0",
		full0 + "/":         "0,1,2,3/7,6,5,4 4 0",
		full0 + "/" + full1: full0 + "/" + full1 + " 0 0",
		full0 + "/////":     "0,1/7,2/6/5/4/3 6 0",
		"1,2,3,4/5/6,7":     "1,2,3/5,4/6,7 1 0",
	} {
		got, moved, code := impl.LevelCupboard(readCupboard(t, c))
		is(t, c, want, impl.CupboardText(got), moved, code)
	}
}

func TestLevelCupboardsKeepTheirSheets(t *testing.T) {
	d := dice(67)
	for range 3000 {
		c := d.cupboard()
		got, moved, code := impl.LevelCupboard(c)
		want, wantMoved := naiveLevel(c)
		if !same(got, want) || moved != wantMoved || code != impl.OK || !impl.ValidCupboard(got) {
			t.Fatalf("%v: got %v %d %d, want %v %d", c, got, moved, code, want, wantMoved)
		}
		if high, low := len(got[naivePile(got, true)]), len(got[naivePile(got, false)]); high-low > 1 {
			t.Fatalf("%v: got %v", c, got)
		}
		before, behind := sheetsOf(c), sheetsOf(got)
		slices.Sort(before)
		slices.Sort(behind)
		if !slices.Equal(before, behind) {
			t.Fatalf("%v: got %v", c, got)
		}
		again, moved, code := impl.LevelCupboard(got)
		is(t, fmt.Sprint(got), fmt.Sprint(got, 0, 0), again, moved, code)
	}
}
