package tests

import (
	"fmt"
	"slices"
	"strings"
	"testing"

	"loop.example/g01378/impl"
)

func TestClothsText(t *testing.T) {
	is(t, "text", "50/40 30/100 60/60", impl.ClothsText(threeCloths()))
	is(t, "limits", "4/1 200/500", impl.ClothsText([]impl.Cloth{cloth(4, 1), cloth(200, 500)}))
	is(t, "no cloths", "", impl.ClothsText(nil))
	is(t, "one", "4/1", impl.ClothsText(manyCloths(cloth(4, 1), 1)))
	is(t, "a hundred", strings.Repeat("4/1 ", 99)+"4/1", impl.ClothsText(manyCloths(cloth(4, 1), 100)))
	is(t, "a hundred and one", "", impl.ClothsText(manyCloths(cloth(4, 1), 101)))
	for _, wrong := range wrongCloths() {
		for at := range 4 {
			is(t, fmt.Sprint(wrong), "", impl.ClothsText(slices.Insert(threeCloths(), at, wrong)))
		}
	}
}

func TestClothsAreReadFromTheirTexts(t *testing.T) {
	d := dice(30)
	for range 1000 {
		list := d.cloths(d.below(101))
		text := impl.ClothsText(list)
		got, code := impl.ReadCloths(text)
		if code != impl.OK || !slices.Equal(got, list) || impl.ClothsText(got) != text {
			t.Fatalf("%q: got %v %d", text, got, code)
		}
	}
	for heavy := int16(1); heavy <= 500; heavy++ {
		c := cloth(4+heavy%197, heavy)
		got, code := impl.ReadCloths(fmt.Sprint(c.Wide, "/", c.Heavy))
		is(t, "read", fmt.Sprint([]impl.Cloth{c}, 0), got, code)
	}
	got, code := impl.ReadCloths("")
	is(t, "the empty text", "[] 0", got, code)
	got, code = impl.ReadCloths(strings.Repeat("200/500 ", 99) + "200/500")
	is(t, "a hundred", "100 0", len(got), code)
}

func TestTextsOfNoCloths(t *testing.T) {
	texts := []string{
		"x", " ", "/", "50", "50/", "/40", "50/40 ", " 50/40", "50/40  30/100", "50/40 30", "50/40 /100", "50/40\n", "50/40\n30/100", "50/40\t30/100",
		"50/40,30/100", "50 /40", "50/ 40", "50 40", "50//40", "50/40/30", "50-40", "50\\40", "050/40", "50/040", "+50/40", "50/+40", "-50/40", "50/-40",
		"5_0/40", "0x32/40", "5e1/40", "50.0/40", "50/40.", "3/40", "201/40", "0/40", "50/0", "50/501", "50/-0", "65586/40", "50/65576", "260/40", "4/65537",
		"50/99999999999999999999", "50/18446744073709551656", "50/40\x00", "٥٠/40", "50/40x", "x50/40", "50/40 3/100", "50/40 30/100 60/600", "50/40;",
		strings.Repeat("4/1 ", 100) + "4/1", strings.Repeat("4/1 ", 100), strings.Repeat("4/1 ", 99) + "x", strings.Repeat("4/1 ", 99) + "4/0",
	}
	for _, text := range texts {
		got, code := impl.ReadCloths(text)
		is(t, fmt.Sprintf("%q", text), "[] 5", got, code)
	}
}

func TestLongTextsOfCloths(t *testing.T) {
	for _, text := range []string{
		strings.Repeat("9", 1000000), strings.Repeat(" ", 1000000), strings.Repeat("/", 1000000), strings.Repeat("4/1 ", 250000),
		"4/" + strings.Repeat("0", 999000) + "1", strings.Repeat("0", 999000) + "4/1",
	} {
		got, code := impl.ReadCloths(text)
		is(t, "a long text", "[] 5", got, code)
	}
}
