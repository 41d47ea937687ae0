package tests

import (
	"fmt"
	"slices"
	"testing"

	"loop.example/g01378/impl"
)

// keptOutside are copies of all slices of some arguments, with their unused capacity.
func keptOutside(a outside) string {
	return fmt.Sprint(whole(a.list), whole(a.order), whole(a.sunny))
}

// spaciousOutside returns the arguments with unused capacity that is not zero.
func spaciousOutside(a outside) outside {
	a.list, a.order, a.sunny = roomy(a.list, wash(77, 7)), roomy(a.order, 77), roomy(a.sunny, 77)
	return a
}

// codelessDrying are the functions that have no code.
var codelessDrying = drying{"codeless", func(a outside) (string, int64) {
	return fmt.Sprint(impl.ValidDay(a.d), impl.ValidWash(a.w), impl.DayText(a.d)), impl.OK
}}

func TestNoArgumentOfDryingIsChanged(t *testing.T) {
	d := dice(52)
	for range 500 {
		a := spaciousOutside(anyOutside(&d))
		before := keptOutside(a)
		for _, c := range append(slices.Clone(allDryings), codelessDrying) {
			c.make(a)
			if keptOutside(a) != before {
				t.Fatalf("%s changes an argument: %s, and then %s", c.name, before, keptOutside(a))
			}
		}
	}
}

func TestEqualArgumentsOfDryingGetEqualResults(t *testing.T) {
	d := dice(53)
	for range 300 {
		a := anyOutside(&d)
		b := spaciousOutside(a)
		for _, c := range append(slices.Clone(allDryings), codelessDrying) {
			text, code := c.make(a)
			for range 3 {
				if again, codeAgain := c.make(b); again != text || codeAgain != code {
					t.Fatalf("%s %v: %s %d, and then %s %d", c.name, a, text, code, again, codeAgain)
				}
			}
		}
		text := impl.DayText(a.d)
		day, code := impl.ReadDay(text)
		again, codeAgain := impl.ReadDay(text)
		if day != again || code != codeAgain {
			t.Fatalf("%q: %v %d, and then %v %d", text, day, code, again, codeAgain)
		}
	}
}

func TestNoThingsAreAsEmpty(t *testing.T) {
	a, b := rightOutside(), rightOutside()
	a.list, a.order, a.sunny = nil, nil, nil
	b.list, b.order, b.sunny = []impl.Wash{}, []int64{}, []int64{}
	for _, c := range withThings {
		text, code := c.make(a)
		if other, otherCode := c.make(b); other != text || otherCode != code {
			t.Errorf("%s: %s %d, and %s %d", c.name, text, code, other, otherCode)
		}
	}
}

func TestResultsOfDryingAreNew(t *testing.T) {
	a := rightOutside()
	fresh(t, "CourseOf", 99, func() []int64 { got, _ := impl.CourseOf(a.d, a.w, a.from, false); return got })
	fresh(t, "WhoGetsSun", 99, func() []int64 { got, _, _ := impl.WhoGetsSun(a.d, a.list, a.from, a.to, a.places); return got })
	fresh(t, "HangInOrder", 99, func() []int64 { got, _ := impl.HangInOrder(a.d, a.list, a.order, a.from); return got })
	fresh(t, "BestHanging", 99, func() []int64 { got, _, _ := impl.BestHanging(a.d, a.list, a.from); return got })
	if b := rightOutside(); !slices.Equal(a.list, b.list) || !slices.Equal(a.order, b.order) || !slices.Equal(a.sunny, b.sunny) {
		t.Errorf("the arguments: %v", a)
	}
}
