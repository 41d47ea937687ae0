package tests

import (
	"fmt"
	"slices"
	"testing"

	"loop.example/g01378/impl"
)

// roomy returns a copy of a list with unused capacity that is not zero.
func roomy[T any](list []T, rest T) []T {
	copied := append(slices.Clone(list), rest, rest, rest)
	return copied[:len(list)]
}

// whole returns a copy of a list with its unused capacity.
func whole[T any](list []T) []T {
	return slices.Clone(list[:cap(list)])
}

func TestNoArgumentIsChanged(t *testing.T) {
	d := dice(14)
	mark := garment(77, 77, 77, 77)
	for range 500 {
		a := asked{r: d.rules(), hold: int64(100 * (1 + d.below(15))), each: int64(d.below(1001))}
		a.load, a.list = roomy(d.garments(d.below(3)), mark), roomy(d.garments(d.below(10)), mark)
		a.loads = roomy(make([]int64, len(a.list)), 77)
		for i := range a.loads {
			a.loads[i] = int64(d.below(8))
		}
		if d.below(4) == 0 && len(a.list) > 0 { // also beside an error
			a.list[d.below(len(a.list))].Weight = 0
		}
		load, list, loads := whole(a.load), whole(a.list), whole(a.loads)
		for _, c := range append(withRules, heatsFor, others) {
			c.make(a)
			if !slices.Equal(load, whole(a.load)) || !slices.Equal(list, whole(a.list)) || !slices.Equal(loads, whole(a.loads)) {
				t.Fatalf("%s changes an argument: %v", c.name, a)
			}
		}
	}
}

// others are the functions that have no code, or no list.
var others = call{"others", func(a asked) (string, int64) {
	if len(a.list) > 1 {
		meet, code := impl.MayMeet(a.r, a.list[0], a.list[1])
		return fmt.Sprint(meet, impl.ValidGarment(a.list[0]), impl.SameGarments(a.list, a.load)), code
	}
	return fmt.Sprint(impl.ValidRules(a.r), impl.GarmentsText(a.list), impl.SameGarments(a.load, a.list)), impl.OK
}}

func TestEqualArgumentsGetEqualResults(t *testing.T) {
	d := dice(15)
	for range 500 {
		a := asked{r: d.rules(), hold: int64(100 * (1 + d.below(15))), load: d.garments(1), list: d.garments(d.below(10)), each: 7}
		a.loads = make([]int64, len(a.list))
		b := a
		b.load, b.list, b.loads = roomy(a.load, garment(5, 0, 95, 1)), roomy(a.list, garment(4, 0, 95, 1)), roomy(a.loads, 3)
		for _, c := range append(withRules, heatsFor, others) {
			text, code := c.make(a)
			for range 3 {
				if again, codeAgain := c.make(b); again != text || codeAgain != code {
					t.Fatalf("%s %v: %s %d, and then %s %d", c.name, a, text, code, again, codeAgain)
				}
			}
		}
	}
}

func TestNilIsAsEmpty(t *testing.T) {
	a, b := rightAsked(), rightAsked()
	a.load, a.list, a.loads = nil, nil, nil
	b.load, b.list, b.loads = []impl.Garment{}, []impl.Garment{}, []int64{}
	for _, c := range append(withRules, heatsFor, others) {
		text, code := c.make(a)
		if other, otherCode := c.make(b); other != text || otherCode != code {
			t.Errorf("%s: %s %d, and %s %d", c.name, text, code, other, otherCode)
		}
	}
}

// fresh checks that a result is new memory: writing into it changes neither the argument nor what the next call returns.
func fresh[T comparable](t *testing.T, name string, spoilt T, make func() []T) {
	t.Helper()
	first := make()
	want := slices.Clone(first)
	all := first[:cap(first)]
	for i := range all {
		all[i] = spoilt
	}
	if second := make(); !slices.Equal(second, want) {
		t.Errorf("%s: %v, and then %v", name, want, second)
	}
}

func TestResultsAreNew(t *testing.T) {
	list, loads := slices.Clone(trio), []int64{0, 1, 1}
	keptList := slices.Clone(list)
	fresh(t, "ColourSets", 99, func() []uint8 { got, _ := impl.ColourSets(pairs); return got })
	fresh(t, "GreedyLoads", 99, func() []int64 { got, _, _ := impl.GreedyLoads(pairs, 2000, list); return got })
	fresh(t, "FewestLoads", 99, func() []int64 { got, _, _ := impl.FewestLoads(pairs, 2000, list); return got })
	fresh(t, "CheapestLoads", 99, func() []int64 { got, _, _ := impl.CheapestLoads(pairs, 2000, list, 10); return got })
	fresh(t, "ApartSet", 99, func() []int64 { got, _ := impl.ApartSet(pairs, list); return got })
	fresh(t, "FitsWith", 99, func() []int64 { got, _ := impl.FitsWith(pairs, 2000, list[1:2], list); return got })
	fresh(t, "HeaviestLoad", 99, func() []int64 { got, _, _ := impl.HeaviestLoad(pairs, 2000, list); return got })
	fresh(t, "ReadGarments", impl.Garment{}, func() []impl.Garment { got, _ := impl.ReadGarments(impl.GarmentsText(list)); return got })
	is(t, "the arguments", fmt.Sprint(keptList, []int64{0, 1, 1}), list, loads)
}
