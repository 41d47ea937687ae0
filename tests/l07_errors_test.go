package tests

import (
	"fmt"
	"math"
	"slices"
	"testing"

	"loop.example/g01378/impl"
)

// pressed are the arguments of a call about ironing; each function takes those that it has.
type pressed struct {
	x        impl.Iron
	from, to int64
	list     []impl.Piece
	order    []int64
}

var (
	changeTime    = deed[pressed]{"ChangeTime", "0", func(a pressed) (string, int64) { return text1(impl.ChangeTime(a.x, a.from, a.to)) }}
	finishTimes   = deed[pressed]{"FinishTimes", "[]", func(a pressed) (string, int64) { return text1(impl.FinishTimes(a.x, a.list, a.order)) }}
	totalTime     = deed[pressed]{"TotalTime", "0", func(a pressed) (string, int64) { return text1(impl.TotalTime(a.x, a.list, a.order)) }}
	lateIn        = deed[pressed]{"LateIn", "[]", func(a pressed) (string, int64) { return text1(impl.LateIn(a.x, a.list, a.order)) }}
	latenessOf    = deed[pressed]{"LatenessOf", "0", func(a pressed) (string, int64) { return text1(impl.LatenessOf(a.x, a.list, a.order)) }}
	shortestOrder = deed[pressed]{"ShortestOrder", "[] 0", func(a pressed) (string, int64) { return text2(impl.ShortestOrder(a.x, a.list)) }}
	fewestLate    = deed[pressed]{"FewestLate", "[] 0", func(a pressed) (string, int64) { return text2(impl.FewestLate(a.x, a.list)) }}
	leastLateness = deed[pressed]{"LeastLateness", "[] 0", func(a pressed) (string, int64) { return text2(impl.LeastLateness(a.x, a.list)) }}
	risingOrder   = deed[pressed]{"RisingOrder", "[]", func(a pressed) (string, int64) { return text1(impl.RisingOrder(a.list)) }}
	dueOrder      = deed[pressed]{"DueOrder", "[]", func(a pressed) (string, int64) { return text1(impl.DueOrder(a.list)) }}
	nearestOrder  = deed[pressed]{"NearestOrder", "[]", func(a pressed) (string, int64) { return text1(impl.NearestOrder(a.x, a.list)) }}
	timeBound     = deed[pressed]{"TimeBound", "0", func(a pressed) (string, int64) { return text1(impl.TimeBound(a.x, a.list)) }}
	waitSum       = deed[pressed]{"WaitSum", "0", func(a pressed) (string, int64) { return text1(impl.WaitSum(a.x, a.list, a.order)) }}
	leastWait     = deed[pressed]{"LeastWait", "[] 0", func(a pressed) (string, int64) { return text2(impl.LeastWait(a.x, a.list)) }}
	twoIrons      = deed[pressed]{"TwoIrons", "[] 0", func(a pressed) (string, int64) { return text2(impl.TwoIrons(a.x, a.list)) }}
	withOrder     = []deed[pressed]{finishTimes, totalTime, lateIn, latenessOf, waitSum}
	withoutOrder  = []deed[pressed]{shortestOrder, fewestLate, leastLateness, nearestOrder, timeBound, leastWait, twoIrons}
	withoutIron   = []deed[pressed]{risingOrder, dueOrder}
	toBePressed   = slices.Concat(withOrder, withoutOrder, withoutIron)
	withIron      = slices.Concat(withOrder, withoutOrder, []deed[pressed]{changeTime})
	allIronings   = slices.Concat(withIron, withoutIron)
)

// rightPressed has arguments with which all functions return OK.
func rightPressed() pressed {
	return pressed{x: iron(2, 5), from: 3, to: 1, list: toIron(exampleOfIroning), order: []int64{0, 2, 1}}
}

func setIron(x impl.Iron) func(a *pressed)          { return func(a *pressed) { a.x = x } }
func setLevels(from, to int64) func(a *pressed)     { return func(a *pressed) { a.from, a.to = from, to } }
func setOrder(order ...int64) func(a *pressed)      { return func(a *pressed) { a.order = order } }
func setList(list ...impl.Piece) func(a *pressed)   { return func(a *pressed) { a.list = list } }
func setAt(at int, p impl.Piece) func(a *pressed)   { return func(a *pressed) { a.list[at] = p } }
func setEqual(p impl.Piece, n int) func(a *pressed) { return setOrdered(manyPieces(p, n)...) }

// setOrdered sets pieces, and the order of their indices.
func setOrdered(list ...impl.Piece) func(a *pressed) {
	return allOf(setList(list...), setOrder(indicesBelow(len(list))...))
}

func TestAllIsIronedRight(t *testing.T) {
	gets(t, rightPressed, allIronings, "right", impl.OK)
	gets(t, rightPressed, allIronings, "no pieces", impl.OK, setOrdered())
	gets(t, rightPressed, allIronings, "one piece", impl.OK, setOrdered(toIron("2/8@60")...))
	for _, order := range everyOrder(3) {
		gets(t, rightPressed, allIronings, fmt.Sprint(order), impl.OK, setOrder(order...))
	}
}

func TestIronsThatAreNone(t *testing.T) {
	for _, x := range wrongIrons() {
		what := fmt.Sprint("the iron ", x)
		gets(t, rightPressed, withIron, what, impl.ErrInvalid, setIron(x))
		gets(t, rightPressed, withIron, what+", and no pieces", impl.ErrInvalid, setIron(x), setOrdered())
		gets(t, rightPressed, withIron, what+", and too many pieces", impl.ErrInvalid, setIron(x), setEqual(toPress(1, 1, 0), 9))
		gets(t, rightPressed, withIron, what+", and no order", impl.ErrInvalid, setIron(x), setOrder(0))
		gets(t, rightPressed, []deed[pressed]{changeTime}, what+", and no levels", impl.ErrInvalid, setIron(x), setLevels(-1, 4))
	}
	for _, n := range []int8{0, 1, 59, 60} {
		gets(t, rightPressed, allIronings, fmt.Sprint("an iron with ", n), impl.OK, setIron(iron(n, 5)))
		gets(t, rightPressed, allIronings, fmt.Sprint("an iron with ", n), impl.OK, setIron(iron(2, n)))
		gets(t, rightPressed, allIronings, fmt.Sprint("an iron with ", n), impl.OK, setIron(iron(n, n)))
	}
}

func TestPiecesThatAreNone(t *testing.T) {
	for _, p := range wrongPieces() {
		for at := range 3 {
			gets(t, rightPressed, toBePressed, fmt.Sprint(p, " at ", at), impl.ErrInvalid, setAt(at, p))
		}
		gets(t, rightPressed, toBePressed, fmt.Sprint(p, " alone"), impl.ErrInvalid, setOrdered(p))
		for _, count := range []int{8, 9} {
			list := append(manyPieces(toPress(1, 1, 0), count-1), p)
			gets(t, rightPressed, toBePressed, fmt.Sprint(p, " behind others"), impl.ErrInvalid, setOrdered(list...))
		}
	}
	for _, p := range toIron("1/10@20 3/10@20 1/1@20 1/60@20 1/10@0 1/10@1 1/10@999 1/10@1000 3/60@1000 1/1@0") {
		gets(t, rightPressed, toBePressed, fmt.Sprint(p), impl.OK, setAt(1, p))
		gets(t, rightPressed, toBePressed, fmt.Sprint(p), impl.OK, setOrdered(p))
	}
}

func TestLevelsThatAreNone(t *testing.T) {
	only := []deed[pressed]{changeTime}
	for _, n := range []int64{-1, 4, 5, -3, 256, 256 + 1, 1<<32 + 1, math.MaxInt64, math.MinInt64} {
		gets(t, rightPressed, only, fmt.Sprint("from ", n), impl.ErrRange, setLevels(n, 1))
		gets(t, rightPressed, only, fmt.Sprint("to ", n), impl.ErrRange, setLevels(1, n))
		gets(t, rightPressed, only, fmt.Sprint("from and to ", n), impl.ErrRange, setLevels(n, n))
	}
	for from := range int64(4) {
		for to := range int64(4) {
			gets(t, rightPressed, only, fmt.Sprint(from, to), impl.OK, setLevels(from, to))
		}
	}
}

func TestMaxIronPiecesAndOneMore(t *testing.T) {
	for _, p := range toIron("1/1@0 3/60@1000 2/5@9") {
		gets(t, rightPressed, toBePressed, "eight", impl.OK, setEqual(p, 8))
		gets(t, rightPressed, toBePressed, "nine", impl.ErrLimit, setEqual(p, 9))
		gets(t, rightPressed, toBePressed, "ten", impl.ErrLimit, setEqual(p, 10))
	}
	d := dice(129)
	for range 20 {
		gets(t, rightPressed, toBePressed, "any eight", impl.OK, setList(d.pieces(8)...), setOrder(d.order(8)...), setIron(d.iron()))
		gets(t, rightPressed, toBePressed, "any nine", impl.ErrLimit, setList(d.pieces(9)...), setOrder(d.order(9)...), setIron(d.iron()))
	}
}

func TestOrdersOfIroningThatAreNone(t *testing.T) {
	for _, order := range wrongOrders() {
		gets(t, rightPressed, withOrder, fmt.Sprint(order), impl.ErrState, setOrder(order...))
	}
	gets(t, rightPressed, withOrder, "an order of no pieces", impl.ErrState, setList())
	gets(t, rightPressed, withOrder, "an order of one", impl.ErrState, setList(), setOrder(0))
	gets(t, rightPressed, withOrder, "one piece, twice", impl.ErrState, setList(toIron("2/8@60")...), setOrder(0, 0))
	gets(t, rightPressed, withOrder, "one piece, never", impl.ErrState, setList(toIron("2/8@60")...), setOrder())
	eight := manyPieces(toPress(1, 1, 0), 8)
	gets(t, rightPressed, withOrder, "eight", impl.OK, setList(eight...), setOrder(7, 6, 5, 4, 3, 2, 1, 0))
	gets(t, rightPressed, withOrder, "eight, one twice", impl.ErrState, setList(eight...), setOrder(7, 6, 5, 4, 3, 2, 1, 7))
	gets(t, rightPressed, withOrder, "eight, one is none", impl.ErrState, setList(eight...), setOrder(8, 6, 5, 4, 3, 2, 1, 0))
}

// TestOrderOfErrorsOfIroning makes several errors at once: the one that the document lists first counts.
func TestOrderOfErrorsOfIroning(t *testing.T) {
	p := toPress(1, 1, 0)
	noIron := setIron(iron(61, 5))
	late := setList(append(manyPieces(p, 9), impl.Piece{})...) // one that is none behind too many
	gets(t, rightPressed, withIron, "an iron before all others", impl.ErrInvalid, noIron, setEqual(p, 9), setLevels(4, 4), setOrder(3))
	gets(t, rightPressed, toBePressed, "invalid before limit and state", impl.ErrInvalid, late, setOrder(3))
	gets(t, rightPressed, withOrder, "invalid before state", impl.ErrInvalid, setAt(2, impl.Piece{}), setOrder(0, 1))
	gets(t, rightPressed, withOrder, "invalid before state", impl.ErrInvalid, setAt(2, impl.Piece{}), setOrder(0, 1, 1))
	gets(t, rightPressed, withOrder, "limit before state", impl.ErrLimit, setEqual(p, 9), setOrder(0, 1, 2))
	gets(t, rightPressed, withOrder, "limit before state", impl.ErrLimit, setEqual(p, 9), setOrder(0, 1, 2, 3, 4, 5, 6, 7, 7))
	gets(t, rightPressed, []deed[pressed]{changeTime}, "invalid before range", impl.ErrInvalid, noIron, setLevels(0, 4))
	gets(t, rightPressed, []deed[pressed]{changeTime}, "range", impl.ErrRange, setLevels(0, 4))
}

// anyPressed returns arguments that are mostly right.
func anyPressed(d *dice) pressed {
	a := pressed{x: d.iron(), from: anyOf(d, 4), to: anyOf(d, 4), list: d.pieces(d.below(9))}
	a.order = d.order(len(a.list))
	switch d.below(12) {
	case 0:
		a.list = d.pieces(d.below(12))
	case 1:
		a.x = wrongIrons()[d.below(len(wrongIrons()))]
	case 2:
		a.order = append(a.order, anyOf(d, 9))
	case 3:
		for i := range a.order {
			a.order[i] = anyOf(d, 9)
		}
	case 4:
		a.list = slices.Insert(a.list, d.below(1+len(a.list)), wrongPieces()[d.below(len(wrongPieces()))])
	}
	return a
}

func TestEveryArgumentOfIroning(t *testing.T) {
	d := dice(130)
	checkEvery(t, allIronings, func() pressed { return anyPressed(&d) })
}

func TestLongListsOfPieces(t *testing.T) {
	long := manyPieces(toPress(1, 1, 0), 1000000)
	gets(t, rightPressed, toBePressed, "a long list", impl.ErrLimit, setList(long...))
	half := long[:500000]
	gets(t, rightPressed, toBePressed, "a long list in a long order", impl.ErrLimit, setOrdered(half...))
	gets(t, rightPressed, withOrder, "a long order", impl.ErrState, setOrder(make([]int64, 1000000)...))
	late := slices.Clone(long)
	late[999999].Minutes = 0
	gets(t, rightPressed, toBePressed, "a long list, invalid at its end", impl.ErrInvalid, setList(late...))
	is(t, "the text of a long list", "", impl.PiecesText(long))
}
