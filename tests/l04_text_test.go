package tests

import (
	"fmt"
	"slices"
	"strings"
	"testing"

	"loop.example/g01378/impl"
)

func TestFoldsText(t *testing.T) {
	is(t, "all", "whWH", impl.FoldsText([]int64{impl.FoHalfWide, impl.FoHalfHigh, impl.FoThirdWide, impl.FoThirdHigh}))
	is(t, "no folds", "", impl.FoldsText(nil))
	is(t, "some", "HHwhW", impl.FoldsText([]int64{3, 3, 0, 1, 2}))
	is(t, "twelve", "WWWWWWWWWWWW", impl.FoldsText(slices.Repeat([]int64{2}, 12)))
	is(t, "thirteen", "", impl.FoldsText(slices.Repeat([]int64{2}, 13)))
	for _, n := range noFolds() {
		for at := range 4 {
			is(t, fmt.Sprint(n), "", impl.FoldsText(slices.Insert([]int64{0, 1, 2}, at, n)))
		}
	}
}

func TestFoldsAreReadFromTheirTexts(t *testing.T) {
	check := func(folds []int64) {
		text := impl.FoldsText(folds)
		got, code := impl.ReadFolds(text)
		if code != impl.OK || !slices.Equal(got, folds) || len(text) != len(folds) {
			t.Fatalf("%v, %q: got %v %d", folds, text, got, code)
		}
	}
	for count := range 6 {
		everyFolds(count, check)
	}
	d := dice(75)
	for range 1000 {
		check(d.anyFolds(d.below(13)))
	}
	folds, code := impl.ReadFolds("whWH")
	is(t, "all", "[0 1 2 3] 0", folds, code)
	folds, code = impl.ReadFolds("")
	is(t, "the empty text", "[] 0", folds, code)
}

func TestTextsOfNoFolds(t *testing.T) {
	texts := []string{
		"x", "0", "1", " ", "w ", " w", "w W", "w,W", "w/W", "w\n", "\n", "\x00", "w\x00", "ww-", "v", "V", "X", "i", "g", "wx", "xw", "whWHx", "ｗ", "ŵ", "w\xff",
		strings.Repeat("w", 13), strings.Repeat("w", 12) + " ", strings.Repeat("w", 11) + "x", strings.Repeat("wh", 7), strings.Repeat("H", 1000000), strings.Repeat("x", 1000000),
	}
	for c := range 256 {
		if !strings.ContainsRune("whWH", rune(c)) {
			texts = append(texts, string([]byte{byte(c)}), string([]byte{'w', byte(c), 'h'}))
		}
	}
	for _, text := range texts {
		folds, code := impl.ReadFolds(text)
		is(t, fmt.Sprintf("%.20q", text), "[] 5", folds, code)
	}
}

func TestCupboardText(t *testing.T) {
	for want, c := range map[string][][]int64{
		"1,2/3":               {{1, 2}, {3}},
		"":                    {{}},
		"/":                   {{}, nil},
		"/////":               make([][]int64, 6),
		"0":                   {{0}},
		"999":                 {{999}},
		"/0,999/":             {{}, {0, 999}, {}},
		"9,8,7,6,5,4,3,2":     {{9, 8, 7, 6, 5, 4, 3, 2}},
		"10//100":             {{10}, {}, {100}},
		"5/4/3/2/1/0":         {{5}, {4}, {3}, {2}, {1}, {0}},
		full0 + "/" + full2:   {{0, 1, 2, 3, 4, 5, 6, 7}, {992, 993, 994, 995, 996, 997, 998, 999}},
		full1 + "////1/" + "": {{10, 11, 12, 13, 14, 15, 16, 17}, {}, {}, {}, {1}, {}},
	} {
		is(t, fmt.Sprint(c), want, impl.CupboardText(c))
	}
	for _, c := range wrongCupboards() {
		is(t, fmt.Sprint(c), "", impl.CupboardText(c))
	}
}

func TestCupboardsAreReadFromTheirTexts(t *testing.T) {
	d := dice(76)
	for range 3000 {
		c := d.cupboard()
		text := impl.CupboardText(c)
		got, code := impl.ReadCupboard(text)
		if code != impl.OK || !same(got, c) || !impl.ValidCupboard(got) || impl.CupboardText(got) != text {
			t.Fatalf("%v, %q: got %v %d", c, text, got, code)
		}
	}
	for sheet := range 1000 {
		got, code := impl.ReadCupboard(fmt.Sprint("/", sheet))
		is(t, fmt.Sprint(sheet), fmt.Sprint([][]int64{{}, {int64(sheet)}}, 0), got, code)
	}
	for text, want := range map[string]string{
		"":      "[[]] 0", // one pile without sheets
		"/":     "[[] []] 0",
		"/////": "[[] [] [] [] [] []] 0",
		"1//2":  "[[1] [] [2]] 0",
		"1,2/":  "[[1 2] []] 0",
		"/1,2":  "[[] [1 2]] 0",
	} {
		got, code := impl.ReadCupboard(text)
		is(t, fmt.Sprintf("%q", text), want, got, code)
	}
}

func TestTextsOfNoCupboard(t *testing.T) {
	texts := []string{
		"x", " ", ",", "1,", ",1", "1,,2", "1,/2", "1/,2", "1,2/3,", ",/", "/,", "1,1", "1/1", "1,2/3,2", "0//0", "//////", "1/2/3/4/5/6/7", "1/2/3/4/5/6/", "/1/2/3/4/5/6",
		full0 + ",8", "9/" + full0 + ",8", "0,1,2,3,4,5,6,7,8/", full0 + ",", "," + full0, "1000", "1,1000", "-1", "1/-1", "-0", "+1", "01", "00", "007", "1,02", "1 ,2", "1, 2", "1 2", " 1", "1 ",
		"1/ /2", " /", "/ ", "1,2/3\n", "\n", "1\n2", "1;2", "1.2", "1.0", "1e2", "0x1", "0b1", "1_0", "1\\2", "a", "1a", "a1", "1,a", "1/x", "nil", "[]", "[[1 2] [3]]", "1\x00", "\x00", "١", "1,２",
		"99999999999999999999", "18446744073709551617", "4294967297", "65537", "9223372036854775807", "-9223372036854775808",
	}
	for _, text := range texts {
		got, code := impl.ReadCupboard(text)
		is(t, fmt.Sprintf("%q", text), "[] 5", got, code)
	}
}

func TestLongTextsOfCupboards(t *testing.T) {
	for _, text := range []string{
		strings.Repeat("9", 1000000), strings.Repeat("/", 1000000), strings.Repeat(",", 1000000), strings.Repeat(" ", 1000000), strings.Repeat("1,", 500000), strings.Repeat("1/", 500000),
		strings.Repeat("0", 999999) + "1", "1/" + strings.Repeat("0", 999990) + "2",
	} {
		got, code := impl.ReadCupboard(text)
		is(t, "a long text", "[] 5", got, code)
	}
}
