package tests

import (
	"fmt"
	"slices"
	"testing"

	"loop.example/g01378/impl"
)

// kept are copies of all slices of some arguments, with their unused capacity.
func kept(a hung) string {
	return fmt.Sprint(whole(a.kinds), whole(a.list), whole(a.order), whole(a.lines))
}

// spacious returns the arguments with unused capacity that is not zero.
func spacious(a hung) hung {
	a.kinds, a.list = roomy(a.kinds, line(77, 77)), roomy(a.list, cloth(77, 77))
	a.order, a.lines = roomy(a.order, 77), roomy(a.lines, 77)
	return a
}

// codeless are the functions that take the cloths otherwise, or have no code.
var codeless = hang{"codeless", func(a hung) (string, int64) {
	text := fmt.Sprint(impl.ValidCloths(a.list), impl.ValidLine(a.l), impl.ClothsText(a.list))
	if len(a.list) < 2 {
		return text, impl.OK
	}
	shared, code := impl.SharePeg(a.list[0], a.list[1])
	return fmt.Sprint(text, shared), code
}}

func TestNoArgumentOfLinesIsChanged(t *testing.T) {
	d := dice(32)
	for range 1000 {
		a := spacious(anyHung(&d))
		before := kept(a)
		for _, c := range append(allHangs, codeless) {
			c.make(a)
			if kept(a) != before {
				t.Fatalf("%s changes an argument: %s, and then %s", c.name, before, kept(a))
			}
		}
	}
}

func TestEqualArgumentsOfLinesGetEqualResults(t *testing.T) {
	d := dice(33)
	for range 500 {
		a := anyHung(&d)
		b := spacious(a)
		for _, c := range append(allHangs, codeless) {
			text, code := c.make(a)
			for range 3 {
				if again, codeAgain := c.make(b); again != text || codeAgain != code {
					t.Fatalf("%s %v: %s %d, and then %s %d", c.name, a, text, code, again, codeAgain)
				}
			}
		}
	}
	for range 3 {
		list, code := impl.ReadCloths("50/40 30/100 60/60")
		is(t, "read again", fmt.Sprint(threeCloths(), 0), list, code)
	}
}

func TestNilClothsAreAsEmpty(t *testing.T) {
	a, b := rightHung(), rightHung()
	a.kinds, a.list, a.order, a.lines = nil, nil, nil, nil
	b.kinds, b.list, b.order, b.lines = []impl.Line{}, []impl.Cloth{}, []int64{}, []int64{}
	for _, c := range append(allHangs, codeless) {
		text, code := c.make(a)
		if other, otherCode := c.make(b); other != text || otherCode != code {
			t.Errorf("%s: %s %d, and %s %d", c.name, text, code, other, otherCode)
		}
	}
}

func TestResultsOfLinesAreNew(t *testing.T) {
	list, order, l := threeCloths(), []int64{0, 1, 2}, line(200, 300)
	fresh(t, "PlacesOf", 99, func() []int64 { got, _ := impl.PlacesOf(list); return got })
	fresh(t, "InOrder", impl.Cloth{}, func() []impl.Cloth { got, _ := impl.InOrder(list, order); return got })
	fresh(t, "FewestPegs", 99, func() []int64 { got, _, _ := impl.FewestPegs(list); return got })
	fresh(t, "Narrowest", 99, func() []int64 { got, _, _ := impl.Narrowest(list); return got })
	fresh(t, "LeastSag", 99, func() []int64 { got, _, _ := impl.LeastSag(l, list); return got })
	fresh(t, "FirstLines", 99, func() []int64 { got, _, _ := impl.FirstLines(l, list); return got })
	fresh(t, "FewestLines", 99, func() []int64 { got, _, _ := impl.FewestLines(l, list, 100); return got })
	fresh(t, "ReadCloths", impl.Cloth{}, func() []impl.Cloth { got, _ := impl.ReadCloths("50/40 30/100"); return got })
	if !slices.Equal(list, threeCloths()) || !slices.Equal(order, []int64{0, 1, 2}) {
		t.Errorf("the arguments: %v %v", list, order)
	}
}
