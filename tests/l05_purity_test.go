package tests

import (
	"fmt"
	"slices"
	"testing"

	"loop.example/g01378/impl"
)

// oddStock is what lies in unused capacity.
var oddStock = impl.Stock{Clean: [8]int16{77, 77}, Rags: 77}

// roomyHouse returns a copy of a house that has unused capacity that is not zero.
func roomyHouse(h impl.House) impl.House {
	h.Kinds = roomy(h.Kinds, oddStock)
	return h
}

// roomyInUse returns a copy of arguments, all of whose lists have unused capacity that is not zero.
func roomyInUse(a inUse) inUse {
	a.h = roomyHouse(a.h)
	a.counts, a.needs, a.days = roomy(a.counts, 77), roomy(a.needs, 77), roomyCupboard(a.days)
	return a
}

// keptInUse tells all lists of some arguments, with their unused capacity.
func keptInUse(a inUse) string {
	return fmt.Sprint(a.h, whole(a.h.Kinds), whole(a.counts), whole(a.needs), keptCupboard(a.days))
}

// codelessLinen are the functions that have no code.
var codelessLinen = deed[inUse]{"codeless", "", func(a inUse) (string, int64) {
	return fmt.Sprint(impl.ValidStock(a.k), impl.ValidHouse(a.h), impl.SameHouse(a.h, a.h), impl.SameHouse(a.h, impl.House{}), impl.HouseText(a.h)), impl.OK
}}

func TestNoArgumentOfLinenIsChanged(t *testing.T) {
	d := dice(89)
	for range 1000 {
		a := roomyInUse(anyInUse(&d))
		before := keptInUse(a)
		for _, c := range append(slices.Clone(allLinen), codelessLinen) {
			c.make(a)
			if after := keptInUse(a); after != before {
				t.Fatalf("%s changes an argument: %s, and then %s", c.name, before, after)
			}
		}
	}
}

// TestHousesInOneList has houses whose kinds lie in one list: those of the second one are unused capacity of the first one.
func TestHousesInOneList(t *testing.T) {
	all := house(10, 1, 0, "5d8 2u1 3r", "4c7", "6d3", "1c1").Kinds
	for count := 1; count <= 4; count++ {
		h := impl.House{Kinds: all[:count], Tub: 10, Every: 1}
		needs := make([]int64, count)
		for i := range needs {
			needs[i] = 1
		}
		a := inUse{k: all[0], h: h, needs: needs, days: [][]int64{needs, needs}, need: 1, pieces: 1, uses: 1}
		for kind := range count {
			a.kind = int64(kind)
			for _, c := range append(slices.Clone(withHouse), codelessLinen) {
				c.make(a)
				is(t, c.name, "0 0 0 / 2u1 5d8 3r / 4c7 / 6d3 / 1c1", tellHouse(impl.House{Kinds: all}))
			}
		}
	}
}

func TestEqualArgumentsOfLinenGetEqualResults(t *testing.T) {
	d := dice(90)
	for range 500 {
		a := anyInUse(&d)
		checkEqual(t, append(slices.Clone(allLinen), codelessLinen), a, roomyInUse(a))
		text := impl.HouseText(a.h)
		h, code := impl.ReadHouse(text)
		again, codeAgain := impl.ReadHouse(text)
		if !sameHome(h, again) || code != codeAgain {
			t.Fatalf("%q: %s %d, and then %s %d", text, tellHouse(h), code, tellHouse(again), codeAgain)
		}
	}
}

func TestNilLinenIsAsEmpty(t *testing.T) {
	a, b := rightInUse(), rightInUse()
	a.h.Kinds, a.counts, a.needs, a.days = nil, nil, nil, nil
	b.h.Kinds, b.counts, b.needs, b.days = []impl.Stock{}, []int64{}, []int64{}, [][]int64{}
	checkEqual(t, append(slices.Clone(allLinen), codelessLinen), a, b)
	c, other := rightInUse(), rightInUse()
	c.needs, c.days = nil, nil
	other.needs, other.days = []int64{}, [][]int64{}
	checkEqual(t, allLinen, c, other)
	c.days, other.days = [][]int64{{1, 1}, nil}, [][]int64{{1, 1}, {}}
	checkEqual(t, allLinen, c, other)
	is(t, "the same", "true", impl.SameHouse(a.h, b.h))
}

// makers are the calls that return a house, by their names.
func makers(a inUse) map[string]func() impl.House {
	return map[string]func() impl.House{
		"NewHouse":       func() impl.House { h, _ := impl.NewHouse(a.counts, a.tub, a.every); return h },
		"WashHouse":      func() impl.House { h, _, _ := impl.WashHouse(a.h); return h },
		"DayOnce":        func() impl.House { h, _, _ := impl.DayOnce(a.h, a.needs); return h },
		"DayAll":         func() impl.House { h, _, _ := impl.DayAll(a.h, a.days); return h },
		"DayAll, no day": func() impl.House { h, _, _ := impl.DayAll(a.h, nil); return h },
		"AddPieces":      func() impl.House { h, _ := impl.AddPieces(a.h, a.kind, a.pieces); return h },
		"MendRags":       func() impl.House { h, _ := impl.MendRags(a.h, a.kind, a.pieces, a.uses); return h },
		"ReadHouse":      func() impl.House { h, _ := impl.ReadHouse(impl.HouseText(a.h)); return h },
	}
}

func TestResultsOfLinenAreNew(t *testing.T) {
	d := dice(91)
	for i := range 300 {
		a := rightInUse()
		if i > 0 {
			a = anyInUse(&d)
			a.pieces = 0
		}
		a = roomyInUse(a)
		before := keptInUse(a)
		for name, make := range makers(a) {
			fresh(t, name, oddStock, func() []impl.Stock { return make().Kinds })
		}
		fresh(t, "DayOnce, short", 99, func() []int64 { _, shorts, _ := impl.DayOnce(a.h, a.needs); return shorts })
		freshCupboard(t, "DayAll, short", func() [][]int64 { _, shorts, _ := impl.DayAll(a.h, a.days); return shorts })
		if after := keptInUse(a); after != before {
			t.Fatalf("the arguments: %s, and then %s", before, after)
		}
	}
}

// TestResultsOfADayLieApart tells that a house has no memory of the numbers beside it.
func TestResultsOfADayLieApart(t *testing.T) {
	a := roomyInUse(rightInUse())
	h, shorts, _ := impl.DayAll(a.h, a.days)
	want := tellHouse(h)
	for i := range shorts {
		spoil(shorts[i], 99)
	}
	is(t, "the house", want, tellHouse(h))
	spoil(a.h.Kinds, oddStock)
	is(t, "the house", want, tellHouse(h))
}
