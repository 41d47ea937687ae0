package tests

import (
	"fmt"
	"math"
	"slices"
	"testing"

	"loop.example/g01378/impl"
)

// inUse are the arguments of a call about linen; each function takes those that it has.
type inUse struct {
	k                                    impl.Stock
	h                                    impl.House
	counts, needs                        []int64
	days                                 [][]int64
	need, kind, tub, every, pieces, uses int64
}

const (
	zeroStock = "{[0 0 0 0 0 0 0 0] [0 0 0 0 0 0 0 0] [0 0 0 0 0 0 0 0] 0}"
	zeroHouse = "{[] 0 0 0}"
)

var (
	piecesOf   = deed[inUse]{"PiecesOf", "0", func(a inUse) (string, int64) { return text1(impl.PiecesOf(a.k)) }}
	newHouse   = deed[inUse]{"NewHouse", zeroHouse, func(a inUse) (string, int64) { return text1(impl.NewHouse(a.counts, a.tub, a.every)) }}
	useKind    = deed[inUse]{"UseKind", zeroStock + " 0", func(a inUse) (string, int64) { return text2(impl.UseKind(a.k, a.need)) }}
	washHouse  = deed[inUse]{"WashHouse", zeroHouse + " 0", func(a inUse) (string, int64) { return text2(impl.WashHouse(a.h)) }}
	dayOnce    = deed[inUse]{"DayOnce", zeroHouse + " []", func(a inUse) (string, int64) { return text2(impl.DayOnce(a.h, a.needs)) }}
	dayAll     = deed[inUse]{"DayAll", zeroHouse + " []", func(a inUse) (string, int64) { return text2(impl.DayAll(a.h, a.days)) }}
	shortFirst = deed[inUse]{"FirstShort", "0 0", func(a inUse) (string, int64) { return text2(impl.FirstShort(a.h, a.days)) }}
	leastStock = deed[inUse]{"LeastStock", "0", func(a inUse) (string, int64) { return text1(impl.LeastStock(a.kind, a.tub, a.every, a.days)) }}
	lastsFor   = deed[inUse]{"LastsFor", "0", func(a inUse) (string, int64) { return text1(impl.LastsFor(a.h, a.needs)) }}
	wornOut    = deed[inUse]{"WornOut", "0", func(a inUse) (string, int64) { return text1(impl.WornOut(a.h, a.days)) }}
	addPieces  = deed[inUse]{"AddPieces", zeroHouse, func(a inUse) (string, int64) { return text1(impl.AddPieces(a.h, a.kind, a.pieces)) }}
	mendRags   = deed[inUse]{"MendRags", zeroHouse, func(a inUse) (string, int64) { return text1(impl.MendRags(a.h, a.kind, a.pieces, a.uses)) }}
	withStock  = []deed[inUse]{piecesOf, useKind}
	withHouse  = []deed[inUse]{washHouse, dayOnce, dayAll, shortFirst, lastsFor, wornOut, addPieces, mendRags}
	withNeeds  = []deed[inUse]{dayOnce, lastsFor}
	withDays   = []deed[inUse]{dayAll, shortFirst, wornOut}
	withTub    = []deed[inUse]{newHouse, leastStock}
	withKind   = []deed[inUse]{addPieces, mendRags}
	allLinen   = slices.Concat(withStock, withHouse, withTub)
)

// rightInUse has arguments with which all functions return OK.
func rightInUse() inUse {
	return inUse{
		k: stock("5c8 2u3 1r"), h: house(10, 2, 0, "5c8 4r", "3c2"), counts: []int64{5, 3}, needs: []int64{2, 1}, days: [][]int64{{2, 1}, {3, 2}, {4, 0}},
		need: 2, kind: 1, tub: 10, every: 2, pieces: 0, uses: 3,
	}
}

func setStock(k impl.Stock) func(a *inUse)     { return func(a *inUse) { a.k = k } }
func setHouse(h impl.House) func(a *inUse)     { return func(a *inUse) { a.h = h } }
func setCounts(counts ...int64) func(a *inUse) { return func(a *inUse) { a.counts = counts } }
func setNeeds(needs ...int64) func(a *inUse)   { return func(a *inUse) { a.needs = needs } }
func setDays(days ...[]int64) func(a *inUse)   { return func(a *inUse) { a.days = days } }
func setNeed(need int64) func(a *inUse)        { return func(a *inUse) { a.need = need } }
func setKind(kind int64) func(a *inUse)        { return func(a *inUse) { a.kind = kind } }
func setTub(tub int64) func(a *inUse)          { return func(a *inUse) { a.tub = tub } }
func setEvery(every int64) func(a *inUse)      { return func(a *inUse) { a.every = every } }
func setPieces(pieces, uses int64) func(a *inUse) {
	return func(a *inUse) { a.pieces, a.uses = pieces, uses }
}

// noPieces are no numbers of pieces; the low bits of some would be.
func noPieces() []int64 {
	return []int64{-1, 501, 502, -500, 1 << 15, 1<<16 + 2, 1<<32 + 2, math.MaxInt64, math.MinInt64}
}

func TestAllLinenRight(t *testing.T) {
	gets(t, rightInUse, allLinen, "right", impl.OK)
	gets(t, rightInUse, []deed[inUse]{dayAll, wornOut, leastStock}, "no days", impl.OK, setDays())
	gets(t, rightInUse, []deed[inUse]{shortFirst}, "no days", impl.ErrNotFound, setDays())
}

func TestInvalidStocksAndHouses(t *testing.T) {
	for _, k := range wrongStocks() {
		gets(t, rightInUse, withStock, tell(k), impl.ErrInvalid, setStock(k))
		gets(t, rightInUse, withStock, tell(k), impl.ErrInvalid, setStock(k), setNeed(501))
	}
	for _, h := range wrongHouses() {
		gets(t, rightInUse, withHouse, tellHouse(h), impl.ErrInvalid, setHouse(h))
		gets(t, rightInUse, withHouse, tellHouse(h), impl.ErrInvalid, setHouse(h), setNeeds(), setDays(repeatDay(61, -1)...), setKind(-1), setPieces(-1, 0))
		gets(t, rightInUse, withDays, tellHouse(h), impl.ErrInvalid, setHouse(h), setDays())
	}
	for _, k := range rightStocks() {
		gets(t, rightInUse, withStock, tell(k), impl.OK, setStock(k))
	}
}

// TestTodayOfLastsFor tells that today plays no part, but that the house has to be valid with it.
func TestTodayOfLastsFor(t *testing.T) {
	last := []deed[inUse]{lastsFor}
	gets(t, rightInUse, last, "the last day", impl.OK, func(a *inUse) { a.h.Today = 60 })
	gets(t, rightInUse, last, "a day too late", impl.ErrInvalid, func(a *inUse) { a.h.Today = 61 })
	gets(t, rightInUse, last, "a day too early", impl.ErrInvalid, func(a *inUse) { a.h.Today = -1 })
	gets(t, rightInUse, last, "range", impl.ErrRange, setNeeds(1), func(a *inUse) { a.h.Today = 60 })
}

func TestNeedsThatAreNone(t *testing.T) {
	for _, n := range noPieces() {
		gets(t, rightInUse, []deed[inUse]{useKind}, fmt.Sprint("the need ", n), impl.ErrRange, setNeed(n))
		for _, needs := range [][]int64{{n, 1}, {1, n}, {n, n}} {
			gets(t, rightInUse, withNeeds, fmt.Sprint(needs), impl.ErrRange, setNeeds(needs...))
			gets(t, rightInUse, withDays, fmt.Sprint(needs), impl.ErrRange, setDays(needs))
			gets(t, rightInUse, withDays, fmt.Sprint(needs), impl.ErrRange, setDays([]int64{1, 1}, needs, []int64{1, 1}))
		}
		gets(t, rightInUse, []deed[inUse]{leastStock}, fmt.Sprint("the need ", n), impl.ErrRange, setDays([]int64{1, 1}, []int64{1, n}))
		gets(t, rightInUse, []deed[inUse]{leastStock}, fmt.Sprint("of another kind ", n), impl.OK, setDays([]int64{n, 1}, []int64{1, 1, n}))
	}
	for _, needs := range [][]int64{nil, {}, {1}, {1, 1, 1}, {0, 0, 0}, {0}, {1, 1, 1, 1}, {1, 1, 501}} {
		gets(t, rightInUse, withNeeds, fmt.Sprint(needs), impl.ErrRange, setNeeds(needs...))
		gets(t, rightInUse, withDays, fmt.Sprint(needs), impl.ErrRange, setDays(needs))
		gets(t, rightInUse, withDays, fmt.Sprint(needs), impl.ErrRange, setDays([]int64{9, 9}, needs))
	}
	for _, need := range []int64{0, 1, 500} {
		gets(t, rightInUse, []deed[inUse]{useKind}, fmt.Sprint("the need ", need), impl.OK, setNeed(need))
		gets(t, rightInUse, withNeeds, fmt.Sprint("the need ", need), impl.OK, setNeeds(need, need))
		gets(t, rightInUse, []deed[inUse]{dayAll, wornOut, leastStock}, fmt.Sprint("the need ", need), impl.OK, setDays([]int64{need, need}))
	}
}

func TestNumbersOfNewHouses(t *testing.T) {
	only := []deed[inUse]{newHouse}
	gets(t, rightInUse, only, "no kinds", impl.ErrRange, setCounts())
	gets(t, rightInUse, only, "no kinds, and a wrong tub", impl.ErrRange, setCounts(), setTub(-1))
	gets(t, rightInUse, only, "one kind", impl.OK, setCounts(1))
	gets(t, rightInUse, only, "four kinds", impl.OK, setCounts(500, 500, 500, 500))
	gets(t, rightInUse, only, "five kinds", impl.ErrRange, setCounts(1, 1, 1, 1, 1))
	gets(t, rightInUse, only, "very many kinds", impl.ErrRange, setCounts(make([]int64, 1000000)...))
	for _, n := range noPieces() {
		for at := range 4 {
			counts := []int64{1, 1, 1, 1}
			counts[at] = n
			gets(t, rightInUse, only, fmt.Sprint(counts), impl.ErrRange, setCounts(counts...))
		}
	}
	for _, tub := range []int64{-1, 1001, -1000, 1 << 16, 1<<16 + 10, 1<<32 + 10, math.MaxInt64, math.MinInt64} {
		gets(t, rightInUse, withTub, fmt.Sprint("the tub ", tub), impl.ErrRange, setTub(tub))
	}
	for _, every := range []int64{0, -1, 8, 9, -7, 256 + 2, 1<<16 + 2, 1<<32 + 2, math.MaxInt64, math.MinInt64} {
		gets(t, rightInUse, withTub, fmt.Sprint("every ", every), impl.ErrRange, setEvery(every))
	}
	for _, tub := range []int64{0, 1, 999, 1000} {
		gets(t, rightInUse, withTub, fmt.Sprint("the tub ", tub), impl.OK, setTub(tub))
	}
	for every := int64(1); every <= 7; every++ {
		gets(t, rightInUse, withTub, fmt.Sprint("every ", every), impl.OK, setEvery(every))
	}
}

func TestKindsThatAreNone(t *testing.T) {
	wide := setDays([]int64{1, 1, 1, 1, 1, 1}, []int64{1, 1, 1, 1, 1})
	for _, n := range []int64{-1, 2, 3, 4, -2, 256, 1 << 16, 1 << 32, 1<<32 + 1, math.MaxInt64, math.MinInt64} {
		gets(t, rightInUse, withKind, fmt.Sprint("the kind ", n), impl.ErrRange, setKind(n))
		if n < 0 || n > 3 {
			gets(t, rightInUse, []deed[inUse]{leastStock}, fmt.Sprint("the kind ", n), impl.ErrRange, setKind(n), wide)
			gets(t, rightInUse, []deed[inUse]{leastStock}, fmt.Sprint("no days, the kind ", n), impl.ErrRange, setKind(n), setDays())
		}
	}
	for kind := range int64(4) {
		gets(t, rightInUse, []deed[inUse]{leastStock}, fmt.Sprint("the kind ", kind), impl.OK, setKind(kind), wide)
		gets(t, rightInUse, []deed[inUse]{leastStock}, fmt.Sprint("no days, the kind ", kind), impl.OK, setKind(kind), setDays())
		gets(t, rightInUse, []deed[inUse]{leastStock}, "a day without need", impl.ErrRange, setKind(kind), setDays([]int64{1, 1, 1, 1}, make([]int64, kind)))
		gets(t, rightInUse, []deed[inUse]{leastStock}, "a day with the last need", impl.OK, setKind(kind), setDays([]int64{1, 1, 1, 1}, make([]int64, kind+1)))
		gets(t, rightInUse, withKind, fmt.Sprint("of four, the kind ", kind), impl.OK, setKind(kind), setHouse(house(10, 2, 0, "1c8", "1c8", "1c8", "1c8")))
		gets(t, rightInUse, withKind, fmt.Sprint("the kind behind ", kind), impl.ErrRange, setKind(kind+1), setHouse(house(10, 2, 0, slices.Repeat([]string{"1c8"}, int(kind)+1)...)))
	}
}

func TestDaysUpToMaxDays(t *testing.T) {
	counted := append(slices.Clone(withDays), leastStock)
	gets(t, rightInUse, counted, "sixty", impl.OK, setDays(repeatDay(60, 1, 1)...))
	gets(t, rightInUse, counted, "sixty-one", impl.ErrLimit, setDays(repeatDay(61, 1, 1)...))
	gets(t, rightInUse, counted, "sixty-one", impl.ErrLimit, setDays(repeatDay(61, 0, 0)...))
	gets(t, rightInUse, withDays, "limit before range", impl.ErrLimit, setDays(repeatDay(61, -1)...))
	gets(t, rightInUse, withDays, "limit before state", impl.ErrLimit, setDays(repeatDay(61, 1, 1)...), func(a *inUse) { a.h.Today = 60 })
	gets(t, rightInUse, []deed[inUse]{leastStock}, "range before limit", impl.ErrRange, setDays(append(repeatDay(60, 1, 1), []int64{1})...))
	gets(t, rightInUse, []deed[inUse]{leastStock}, "range before limit", impl.ErrRange, setDays(append(repeatDay(60, 1, 1), []int64{1, 501})...))
	gets(t, rightInUse, []deed[inUse]{leastStock}, "range before limit", impl.ErrRange, setDays(make([][]int64, 61)...))
	gets(t, rightInUse, []deed[inUse]{leastStock}, "limit before what is not found", impl.ErrLimit, setDays(repeatDay(61, 500, 500)...))
	gets(t, rightInUse, []deed[inUse]{leastStock}, "not found", impl.ErrNotFound, setDays(repeatDay(60, 0, 500)...))
	for _, change := range []func(a *inUse){setTub(-1), setEvery(8), setKind(4)} {
		gets(t, rightInUse, []deed[inUse]{leastStock}, "range before limit", impl.ErrRange, change, setDays(repeatDay(61, 1, 1, 1, 1, 1)...))
	}
}

func TestTodayAtMaxDays(t *testing.T) {
	last := func(a *inUse) { a.h.Today = 60 }
	gets(t, rightInUse, []deed[inUse]{dayOnce, dayAll, shortFirst, wornOut}, "the last day is over", impl.ErrState, last)
	gets(t, rightInUse, []deed[inUse]{dayAll, wornOut, washHouse, lastsFor, addPieces, mendRags}, "no days", impl.OK, last, setDays())
	gets(t, rightInUse, []deed[inUse]{dayOnce}, "range before state", impl.ErrRange, last, setNeeds(1))
	gets(t, rightInUse, []deed[inUse]{dayOnce}, "range before state", impl.ErrRange, last, setNeeds(1, 501))
	gets(t, rightInUse, withDays, "range before state", impl.ErrRange, last, setDays([]int64{1}))
	gets(t, rightInUse, withDays, "state of the day before", impl.ErrState, last, setDays([]int64{1, 1}, []int64{1}))
	gets(t, rightInUse, []deed[inUse]{dayOnce, dayAll, wornOut}, "the last day", impl.OK, func(a *inUse) { a.h.Today = 59 }, setDays([]int64{1, 1}))
	gets(t, rightInUse, []deed[inUse]{dayAll, shortFirst, wornOut}, "behind the last day", impl.ErrState, func(a *inUse) { a.h.Today = 59 }, setDays([]int64{9, 9}, []int64{1, 1}))
}

func TestPiecesThatAreTooMany(t *testing.T) {
	add, mend := []deed[inUse]{addPieces}, []deed[inUse]{mendRags}
	for _, n := range noPieces() {
		gets(t, rightInUse, withKind, fmt.Sprint(n), impl.ErrRange, setPieces(n, 3))
	}
	for _, n := range []int64{0, -1, 9, 10, -8, 256 + 3, 1<<32 + 3, math.MaxInt64, math.MinInt64} {
		gets(t, rightInUse, mend, fmt.Sprint("uses ", n), impl.ErrRange, setPieces(0, n))
		gets(t, rightInUse, mend, fmt.Sprint("range before state, uses ", n), impl.ErrRange, setPieces(500, n))
		gets(t, rightInUse, add, fmt.Sprint("uses ", n), impl.OK, setPieces(1, n))
	}
	for uses := int64(1); uses <= 8; uses++ {
		gets(t, rightInUse, mend, fmt.Sprint("uses ", uses), impl.OK, setPieces(4, uses), setKind(0))
	}
	gets(t, rightInUse, add, "up to the limit", impl.OK, setPieces(497, 3))
	gets(t, rightInUse, add, "one more", impl.ErrLimit, setPieces(498, 3))
	gets(t, rightInUse, add, "many more", impl.ErrLimit, setPieces(500, 3))
	gets(t, rightInUse, add, "rags count", impl.OK, setPieces(491, 3), setKind(0))
	gets(t, rightInUse, add, "rags count", impl.ErrLimit, setPieces(492, 3), setKind(0))
	gets(t, rightInUse, add, "none to a full stock", impl.OK, setPieces(0, 3), setHouse(house(1, 1, 1, "", "500c8")))
	gets(t, rightInUse, add, "one to a full stock", impl.ErrLimit, setPieces(1, 3), setHouse(house(1, 1, 1, "", "500c8")))
	gets(t, rightInUse, add, "all to a full stock", impl.ErrLimit, setPieces(500, 3), setHouse(house(1, 1, 1, "", "500c8")))
	gets(t, rightInUse, add, "range before limit", impl.ErrRange, setPieces(501, 3), setHouse(house(1, 1, 1, "", "500c8")))
	gets(t, rightInUse, add, "a kind before limit", impl.ErrRange, setPieces(500, 3), setKind(2))
	gets(t, rightInUse, mend, "all rags", impl.OK, setPieces(4, 3), setKind(0))
	gets(t, rightInUse, mend, "one more", impl.ErrState, setPieces(5, 3), setKind(0))
	gets(t, rightInUse, mend, "without rags", impl.ErrState, setPieces(1, 3))
	gets(t, rightInUse, mend, "500 rags", impl.OK, setPieces(500, 8), setHouse(house(1, 1, 1, "", "500r")))
	gets(t, rightInUse, mend, "range before state", impl.ErrRange, setPieces(501, 8), setHouse(house(1, 1, 1, "", "500r")))
	gets(t, rightInUse, mend, "a kind before state", impl.ErrRange, setPieces(5, 3), setKind(2))
}

// anyInUse returns arguments that are mostly right for some of the functions, and wrong for others.
func anyInUse(d *dice) inUse {
	number := func(usual int) int64 { return anyOf(d, usual) }
	a := inUse{k: d.stock(), h: d.house(), need: number(501), tub: number(1001), every: 1 + number(7), pieces: number([]int{2, 20, 501}[d.below(3)]), uses: 1 + number(8)}
	a.kind = number(len(a.h.Kinds))
	if d.below(10) == 0 {
		a.k = wrongStocks()[d.below(len(wrongStocks()))]
	}
	if d.below(10) == 0 {
		a.h = wrongHouses()[d.below(len(wrongHouses()))]
	}
	for range d.below(6) {
		a.counts = append(a.counts, number(501))
	}
	kinds := max(1, len(a.h.Kinds))
	a.needs, a.days = d.needs(kinds), d.days(kinds, d.below(6))
	if d.below(4) == 0 {
		list := append([][]int64{a.needs}, a.days...)
		d.spoiltDays(list)
		a.needs, a.days = list[0], list[1:]
	}
	return a
}

func TestEveryArgumentOfLinen(t *testing.T) {
	d := dice(88)
	checkEvery(t, allLinen, func() inUse { return anyInUse(&d) })
}

func TestLongListsOfKindsAndDays(t *testing.T) {
	long := make([]int64, 1000000)
	kinds := impl.House{Kinds: make([]impl.Stock, 30000), Tub: 1, Every: 1}
	is(t, "many kinds", "false  true", impl.ValidHouse(kinds), impl.HouseText(kinds), impl.SameHouse(kinds, kinds))
	gets(t, rightInUse, withHouse, "many kinds", impl.ErrInvalid, setHouse(kinds))
	gets(t, rightInUse, withNeeds, "many needs", impl.ErrRange, setNeeds(long...))
	gets(t, rightInUse, withDays, "many needs", impl.ErrRange, setDays(long))
	gets(t, rightInUse, []deed[inUse]{leastStock}, "many needs", impl.OK, setDays(long))
	gets(t, rightInUse, withDays, "many days", impl.ErrLimit, setDays(make([][]int64, 1000000)...))
	gets(t, rightInUse, []deed[inUse]{leastStock}, "many days", impl.ErrLimit, setDays(slices.Repeat([][]int64{{1, 1}}, 300000)...))
	gets(t, rightInUse, []deed[inUse]{leastStock}, "many days", impl.ErrRange, setDays(make([][]int64, 1000000)...))
}
