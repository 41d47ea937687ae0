package tests

import (
	"fmt"
	"strings"
	"testing"

	"loop.example/g01378/impl"
)

// none is the line of a kind without pieces.
var none = strings.Repeat("0 ", 24) + "0\n"

func TestHouseText(t *testing.T) {
	for _, c := range []struct {
		h    impl.House
		want string
	}{
		{house(10, 2, 2, "1c8 2c7 2u7"), "10 2 2\n0 0 0 0 0 0 2 1 0 0 0 0 0 0 2 0 0 0 0 0 0 0 0 0 0\n"},
		{house(0, 1, 0, ""), "0 1 0\n" + none},
		{house(1000, 7, 60, "500r", "", "500d1", "500u8"), "1000 7 60\n" + strings.Repeat("0 ", 24) + "500\n" + none + strings.Repeat("0 ", 16) + "500" + strings.Repeat(" 0", 8) + "\n" + strings.Repeat("0 ", 15) + "500" + strings.Repeat(" 0", 9) + "\n"},
		{
			house(7, 3, 9, "1c1 2c2 3c3 4c4 5c5 6c6 7c7 8c8 9u1 10u2 11u3 12u4 13u5 14u6 15u7 16u8 17d1 18d2 19d3 20d4 21d5 22d6 23d7 24d8 25r", "1c1"),
			"7 3 9\n1 2 3 4 5 6 7 8 9 10 11 12 13 14 15 16 17 18 19 20 21 22 23 24 25\n1" + strings.Repeat(" 0", 24) + "\n",
		},
	} {
		is(t, tellHouse(c.h), c.want, impl.HouseText(c.h))
	}
	for _, h := range wrongHouses() {
		is(t, tellHouse(h), "", impl.HouseText(h))
	}
}

// naiveText is the text of a house, whether it is valid or not.
func naiveText(h impl.House) string {
	text := fmt.Sprintf("%d %d %d\n", h.Tub, h.Every, h.Today)
	for _, k := range h.Kinds {
		for _, place := range [][8]int16{k.Clean, k.Used, k.Dirty} {
			for _, count := range place {
				text += fmt.Sprintf("%d ", count)
			}
		}
		text += fmt.Sprintf("%d\n", k.Rags)
	}
	return text
}

func TestHousesAreReadFromTheirTexts(t *testing.T) {
	d := dice(92)
	for range 2000 {
		h := d.house()
		text := impl.HouseText(h)
		is(t, tellHouse(h), naiveText(h), text)
		got, code := impl.ReadHouse(text)
		checkHome(t, text, got, h, fmt.Sprint(code, impl.ValidHouse(got), impl.SameHouse(got, h)), "0 true true")
	}
	for _, k := range rightStocks() {
		h := house(1000, 7, 60, "", "1r")
		h.Kinds = append(h.Kinds, k)
		got, code := impl.ReadHouse(naiveText(h))
		checkHome(t, naiveText(h), got, h, fmt.Sprint(code), "0")
	}
}

func isNoHouse(t *testing.T, name, text string) {
	t.Helper()
	h, code := impl.ReadHouse(text)
	if code != impl.ErrSyntax || !sameHome(h, impl.House{}) {
		t.Errorf("%s: got %s %d", name, tellHouse(h), code)
	}
}

func TestTextsOfWrongHouses(t *testing.T) {
	for _, h := range wrongHouses() {
		isNoHouse(t, tellHouse(h), naiveText(h))
	}
}

func TestTextsOfNoHouse(t *testing.T) {
	first, kind := "10 2 3\n", "5 0 0 0 0 0 0 1 0 0 2 0 0 0 0 0 0 3 0 0 0 0 0 0 4\n"
	h, code := impl.ReadHouse(first + kind)
	is(t, "right", "10 2 3 / 1c8 5c1 2u3 3d2 4r 0", tellHouse(h), code)
	texts := []string{
		"", "x", " ", "\n", "\n\n", first, kind, kind + kind, first + "\n", first + "\n" + kind, "\n" + first + kind, first + kind + "\n", first + kind + "\n" + kind, first + kind + " ", first + kind + " \n",
		"10 2 3" + kind, first + strings.TrimSuffix(kind, "\n"), first + kind + strings.TrimSuffix(kind, "\n"), "10 2 3", first + first, first + kind + first,
		first + strings.Repeat(kind, 5), first + strings.Repeat(kind, 6), first + kind + "x", first + kind + "\x00", "\x00" + first + kind, strings.ReplaceAll(first+kind, "\n", "\r\n"),
		strings.ReplaceAll(first+kind, "\n", " "), strings.ReplaceAll(first+kind, " ", "\n"), strings.ReplaceAll(first+kind, " ", "  "), strings.ReplaceAll(first+kind, " ", "\t"), strings.ReplaceAll(first+kind, " ", ","),
		first + "0 " + kind, first + strings.TrimSuffix(kind, "\n") + " 0\n", first + kind[2:], first + strings.TrimSuffix(kind, " 4\n") + "\n", first + " " + kind, first + strings.TrimSuffix(kind, "\n") + " \n",
		first + strings.Replace(kind, " ", "  ", 1), first + strings.Replace(kind, " ", "\n", 1), first + strings.Replace(kind, " ", "", 1), first + strings.Repeat("20 ", 24) + "21\n", first + kind + strings.Repeat("20 ", 24) + "21\n",
	}
	for _, line := range []string{
		"", "10", "10 2", "10 2 3 4", "10 2 3 ", " 10 2 3", "10  2 3", "10 2\n3", "10 2 -1", "10 2 61", "10 0 3", "10 8 3", "10 -2 3", "1001 2 3", "-1 2 3", "-0 2 3", "010 2 3", "10 02 3", "10 2 03", "+10 2 3", "10 +2 3", "10 2 +3",
		"10.0 2 3", "1e1 2 3", "0xa 2 3", "1_0 2 3", "x 2 3", "10 x 3", "10 2 x", "65546 2 3", "10 258 3", "10 -254 3", "10 2 65539", "4294967306 2 3", "18446744073709551626 2 3", "99999999999999999999999 2 3", "１０ 2 3", "10/2/3", "10,2,3", "10 2 3\r",
	} {
		texts = append(texts, line+"\n"+kind)
	}
	parts := strings.Fields(kind)
	for at := range parts {
		for _, part := range []string{"", "-1", "501", "500", "+1", "01", "00", "-0", "x", "1.0", "1e1", "0x1", "1_0", "65537", "65536", "-65536", "4294967297", "18446744073709551616", "٢", "1,", " "} {
			changed := append([]string{}, parts...)
			changed[at] = part
			texts = append(texts, first+strings.Join(changed, " ")+"\n", first+none+strings.Join(changed, " ")+"\n"+none)
		}
	}
	for _, text := range texts {
		isNoHouse(t, fmt.Sprintf("%q", text), text)
	}
}

func TestLongTextsOfHouses(t *testing.T) {
	right := "10 2 3\n" + none
	for _, text := range []string{
		strings.Repeat("9", 1000000), strings.Repeat(" ", 1000000), strings.Repeat("\n", 1000000), strings.Repeat("0 ", 500000), strings.Repeat("10 2 3\n", 100000),
		"10 2 3\n" + strings.Repeat(none, 19000), right + strings.Repeat("\n", 900000), strings.Repeat("0", 900000) + right, right + strings.Repeat("0 ", 400000), "10 2 3\n" + strings.Repeat("0", 900000) + none,
	} {
		isNoHouse(t, "a long text", text)
	}
}
