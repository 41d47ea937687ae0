package tests

import (
	"fmt"
	"slices"
	"testing"

	"loop.example/g01378/impl"
)

// roomyPressed returns a copy of arguments, all of whose lists have unused capacity that is not zero.
func roomyPressed(a pressed) pressed {
	a.list, a.order = roomy(a.list, toPress(2, 7, 77)), roomy(a.order, 77)
	return a
}

// keptPressed tells all lists of some arguments, with their unused capacity.
func keptPressed(a pressed) string {
	return fmt.Sprint(whole(a.list), whole(a.order))
}

// codelessIroning are the functions that have no code.
var codelessIroning = deed[pressed]{"codeless", "", func(a pressed) (string, int64) {
	text := fmt.Sprint(impl.ValidIron(a.x), impl.PiecesText(a.list))
	for _, p := range a.list {
		text += fmt.Sprint(impl.ValidPiece(p))
	}
	return text, impl.OK
}}

func everyOfIroning() []deed[pressed] {
	return append(slices.Clone(allIronings), codelessIroning)
}

func TestNoArgumentOfIroningIsChanged(t *testing.T) {
	d := dice(131)
	for range 500 {
		a := roomyPressed(anyPressed(&d))
		before := keptPressed(a)
		for _, c := range everyOfIroning() {
			c.make(a)
			if after := keptPressed(a); after != before {
				t.Fatalf("%s changes an argument: %s, and then %s", c.name, before, after)
			}
		}
	}
}

func TestEqualArgumentsOfIroningGetEqualResults(t *testing.T) {
	d := dice(132)
	for range 300 {
		a := anyPressed(&d)
		checkEqual(t, everyOfIroning(), a, roomyPressed(a))
		text := impl.PiecesText(a.list)
		list, code := impl.ReadPieces(text)
		again, codeAgain := impl.ReadPieces(text)
		is(t, text, fmt.Sprint(list, code), again, codeAgain)
	}
}

func TestNoPiecesAreAsEmpty(t *testing.T) {
	a, b := rightPressed(), rightPressed()
	a.list, a.order = nil, nil
	b.list, b.order = []impl.Piece{}, []int64{}
	checkEqual(t, everyOfIroning(), a, b)
	c, other := rightPressed(), rightPressed()
	c.order, other.order = nil, []int64{}
	checkEqual(t, everyOfIroning(), c, other)
}

func TestIroningHoweverTheGoroutinesRun(t *testing.T) {
	checkHoweverRun(t, func() string {
		d, text := dice(133), ""
		for range 30 {
			x, list := d.iron(), d.pieces(d.below(9))
			irons, least, code := impl.TwoIrons(x, list)
			text += fmt.Sprint(irons, least, code)
			for _, s := range searches {
				order, least, code := s.best(x, list)
				text += fmt.Sprint(order, least, code)
			}
		}
		return text
	})
}

// TestNothingOfTheIronsGoesOn has also calls with an error.
func TestNothingOfTheIronsGoesOn(t *testing.T) {
	d := dice(134)
	checkNothingGoesOn(t, func() {
		for range 10 {
			a := anyPressed(&d)
			impl.TwoIrons(a.x, a.list)
		}
	})
}

// TestPiecesMayBeChangedBehindACall changes the argument as soon as the irons have been told.
func TestPiecesMayBeChangedBehindACall(t *testing.T) {
	for range 300 {
		list := manyPieces(toPress(3, 60, 0), 8)
		irons, least, code := impl.TwoIrons(iron(60, 60), list)
		clear(list)
		is(t, "two irons", "[0 0 0 0 1 1 1 1] 420 0", irons, least, code)
	}
}

func TestResultsOfIroningAreNew(t *testing.T) {
	d := dice(135)
	for i := range 200 {
		a := rightPressed()
		if i > 0 {
			a = anyPressed(&d)
		}
		a = roomyPressed(a)
		before := keptPressed(a)
		fresh(t, "FinishTimes", 99, func() []int64 { got, _ := impl.FinishTimes(a.x, a.list, a.order); return got })
		fresh(t, "LateIn", 99, func() []int64 { got, _ := impl.LateIn(a.x, a.list, a.order); return got })
		fresh(t, "ShortestOrder", 99, func() []int64 { got, _, _ := impl.ShortestOrder(a.x, a.list); return got })
		fresh(t, "FewestLate", 99, func() []int64 { got, _, _ := impl.FewestLate(a.x, a.list); return got })
		fresh(t, "LeastLateness", 99, func() []int64 { got, _, _ := impl.LeastLateness(a.x, a.list); return got })
		fresh(t, "RisingOrder", 99, func() []int64 { got, _ := impl.RisingOrder(a.list); return got })
		fresh(t, "DueOrder", 99, func() []int64 { got, _ := impl.DueOrder(a.list); return got })
		fresh(t, "NearestOrder", 99, func() []int64 { got, _ := impl.NearestOrder(a.x, a.list); return got })
		fresh(t, "LeastWait", 99, func() []int64 { got, _, _ := impl.LeastWait(a.x, a.list); return got })
		fresh(t, "TwoIrons", 99, func() []int64 { got, _, _ := impl.TwoIrons(a.x, a.list); return got })
		fresh(t, "ReadPieces", impl.Piece{}, func() []impl.Piece { got, _ := impl.ReadPieces(impl.PiecesText(a.list)); return got })
		if after := keptPressed(a); after != before {
			t.Fatalf("the arguments: %s, and then %s", before, after)
		}
	}
}
