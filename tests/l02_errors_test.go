package tests

import (
	"fmt"
	"math"
	"slices"
	"strings"
	"testing"

	"loop.example/g01378/impl"
)

// hung are the arguments of a call; each function takes those that it has.
type hung struct {
	l      impl.Line
	kinds  []impl.Line
	list   []impl.Cloth
	order  []int64
	lines  []int64
	budget int64
}

// hang is a function of chapter 2 with a code: its results as text, and the code.
type hang struct {
	name string
	make func(a hung) (string, int64)
}

var (
	pegsFor     = hang{"PegsFor", func(a hung) (string, int64) { return text1(impl.PegsFor(a.list)) }}
	widthFor    = hang{"WidthFor", func(a hung) (string, int64) { return text1(impl.WidthFor(a.list)) }}
	placesOf    = hang{"PlacesOf", func(a hung) (string, int64) { return text1(impl.PlacesOf(a.list)) }}
	fitsLine    = hang{"FitsLine", func(a hung) (string, int64) { return text1(impl.FitsLine(a.l, a.list)) }}
	inOrder     = hang{"InOrder", func(a hung) (string, int64) { return text1(impl.InOrder(a.list, a.order)) }}
	fewestPegs  = hang{"FewestPegs", func(a hung) (string, int64) { return text2(impl.FewestPegs(a.list)) }}
	narrowest   = hang{"Narrowest", func(a hung) (string, int64) { return text2(impl.Narrowest(a.list)) }}
	sagOf       = hang{"SagOf", func(a hung) (string, int64) { return text1(impl.SagOf(a.l, a.list)) }}
	leastSag    = hang{"LeastSag", func(a hung) (string, int64) { return text2(impl.LeastSag(a.l, a.list)) }}
	firstLines  = hang{"FirstLines", func(a hung) (string, int64) { return text2(impl.FirstLines(a.l, a.list)) }}
	fewestLines = hang{"FewestLines", func(a hung) (string, int64) { return text2(impl.FewestLines(a.l, a.list, a.budget)) }}
	checkLines  = hang{"CheckLines", func(a hung) (string, int64) { return text1(impl.CheckLines(a.l, a.list, a.lines)) }}
	whichLine   = hang{"WhichLine", func(a hung) (string, int64) { return text1(impl.WhichLine(a.kinds, a.list)) }}
	allHangs    = []hang{pegsFor, widthFor, placesOf, fitsLine, inOrder, fewestPegs, narrowest, sagOf, leastSag, firstLines, fewestLines, checkLines, whichLine}
	ofHundred   = []hang{pegsFor, widthFor, placesOf, inOrder}
	ofSeven     = []hang{fitsLine, fewestPegs, narrowest, sagOf, leastSag, firstLines, fewestLines, checkLines, whichLine}
	withLine    = []hang{fitsLine, sagOf, leastSag, firstLines, fewestLines, checkLines}
)

// rightHung has arguments with which all functions return OK.
func rightHung() hung {
	l := line(200, 300)
	return hung{l, []impl.Line{line(100, 300), l}, threeCloths(), []int64{0, 2, 1}, []int64{3, 3, 0}, 100}
}

// zeroOf tells the zero values of a call as text.
func zeroOf(c hang) string {
	switch c.name {
	case "FitsLine", "CheckLines":
		return "false"
	case "PegsFor", "WidthFor", "SagOf", "WhichLine":
		return "0"
	case "PlacesOf", "InOrder":
		return "[]"
	}
	return "[] 0"
}

func expects(t *testing.T, calls []hang, what string, change func(a *hung), code int64) {
	t.Helper()
	for _, c := range calls {
		a := rightHung()
		change(&a)
		text, got := c.make(a)
		if got != code || code != impl.OK && text != zeroOf(c) {
			t.Errorf("%s, %s: got %s with %d, want %d", c.name, what, text, got, code)
		}
	}
}

// setCount sets how many cloths there are, with an order and lines for them.
func setCount(count int) func(a *hung) {
	return func(a *hung) {
		a.list, a.order, a.lines = manyCloths(cloth(4, 1), count), nil, make([]int64, count)
		for i := range count {
			a.order = append(a.order, int64(i))
		}
	}
}

func allOf[A any](changes ...func(a *A)) func(a *A) {
	return func(a *A) {
		for _, change := range changes {
			change(a)
		}
	}
}

func TestAllHangsRight(t *testing.T) {
	expects(t, allHangs, "right", func(a *hung) {}, impl.OK)
	expects(t, allHangs, "no cloths", setCount(0), impl.OK)
}

func TestInvalidCloths(t *testing.T) {
	for _, c := range wrongCloths() {
		for at := range 3 {
			expects(t, allHangs, fmt.Sprint(c), func(a *hung) { a.list[at] = c }, impl.ErrInvalid)
		}
		for _, two := range [][2]impl.Cloth{{c, cloth(4, 1)}, {cloth(4, 1), c}, {c, c}} {
			shared, code := impl.SharePeg(two[0], two[1])
			is(t, fmt.Sprint(two), "false 1", shared, code)
		}
	}
}

func TestInvalidLines(t *testing.T) {
	for _, l := range wrongLines() {
		expects(t, withLine, fmt.Sprint(l), func(a *hung) { a.l = l }, impl.ErrInvalid)
		expects(t, withLine, "no cloths", allOf(setCount(0), func(a *hung) { a.l = l }), impl.ErrInvalid)
		for at := range 3 { // also behind a line on which the cloths fit
			expects(t, []hang{whichLine}, fmt.Sprint(l), func(a *hung) { a.kinds = slices.Insert(a.kinds, at, l) }, impl.ErrInvalid)
		}
	}
}

func TestLimitsOfCloths(t *testing.T) {
	expects(t, allHangs, "seven", setCount(7), impl.OK)
	expects(t, ofSeven, "eight", setCount(8), impl.ErrLimit)
	expects(t, ofHundred, "eight", setCount(8), impl.OK)
	expects(t, ofHundred, "a hundred", setCount(100), impl.OK)
	expects(t, allHangs, "a hundred and one", setCount(101), impl.ErrLimit)
}

func TestBudgets(t *testing.T) {
	calls := []hang{fewestLines}
	for _, budget := range []int64{-1, 20001, math.MinInt64, math.MaxInt64, 1 << 32} {
		expects(t, calls, fmt.Sprint(budget), func(a *hung) { a.budget = budget }, impl.ErrRange)
		expects(t, calls, "no cloths", allOf(setCount(0), func(a *hung) { a.budget = budget }), impl.ErrRange)
	}
	for budget, code := range map[int64]int64{0: impl.ErrBudget, 2: impl.ErrBudget, 3: impl.OK, 4: impl.OK, 20000: impl.OK} {
		expects(t, calls, fmt.Sprint(budget), func(a *hung) { a.budget = budget }, code)
	}
	expects(t, calls, "no cloths", allOf(setCount(0), func(a *hung) { a.budget = 0 }), impl.OK)
}

func TestWhatDoesNotFit(t *testing.T) {
	short := func(a *hung) { a.l = line(141, 300) }
	weak := func(a *hung) { a.l = line(200, 199) }
	for what, change := range map[string]func(a *hung){"short": short, "weak": weak} {
		expects(t, []hang{sagOf}, what, change, impl.ErrState)
		expects(t, []hang{fitsLine, firstLines, fewestLines, checkLines}, what, change, impl.OK)
	}
	tooShort := func(a *hung) { a.l = line(59, 300) }
	tooWeak := func(a *hung) { a.l = line(200, 99) }
	for what, change := range map[string]func(a *hung){"too short": tooShort, "too weak": tooWeak} {
		expects(t, []hang{leastSag, firstLines, fewestLines}, what, change, impl.ErrNotFound)
		expects(t, []hang{fitsLine, checkLines}, what, change, impl.OK)
	}
	expects(t, []hang{leastSag}, "fits in another order", func(a *hung) { a.l = line(139, 200) }, impl.OK)
	expects(t, []hang{leastSag}, "fits in no order", func(a *hung) { a.l = line(138, 200) }, impl.ErrNotFound)
	expects(t, []hang{firstLines, fewestLines}, "each one just fits", func(a *hung) { a.l = line(60, 100) }, impl.OK)
	expects(t, []hang{whichLine}, "no line is long enough", func(a *hung) { a.kinds = a.kinds[:1] }, impl.ErrNotFound)
	expects(t, []hang{whichLine}, "no lines", func(a *hung) { a.kinds = nil }, impl.ErrNotFound)
	expects(t, []hang{inOrder}, "no order", func(a *hung) { a.order[0] = 1 }, impl.ErrState)
}

// TestOrderOfErrorsOfLines makes several errors at once: the one that the document lists first counts.
func TestOrderOfErrorsOfLines(t *testing.T) {
	lastWrong := func(a *hung) { a.list = append(a.list, cloth(3, 1)) }
	wrongLine := func(a *hung) { a.l = line(3, 1) }
	lastLineWrong := func(a *hung) { a.kinds = append(a.kinds, line(100, 2001)) }
	noBudget := func(a *hung) { a.budget = -1 }
	small := func(a *hung) { a.l, a.kinds = line(4, 1), []impl.Line{line(4, 1)} }
	noOrder := func(a *hung) { a.order = nil }
	wide := func(a *hung) { a.list[0].Wide = 5 }
	smallBudget := func(a *hung) { a.budget = 0 }
	expects(t, ofSeven, "an invalid cloth before the rest", allOf(setCount(8), lastWrong, noBudget, small), impl.ErrInvalid)
	expects(t, ofHundred, "an invalid cloth before the rest", allOf(setCount(101), lastWrong, noOrder), impl.ErrInvalid)
	expects(t, withLine, "an invalid line before the rest", allOf(setCount(8), wrongLine, noBudget), impl.ErrInvalid)
	expects(t, []hang{whichLine}, "an invalid line before the rest", allOf(setCount(8), lastLineWrong), impl.ErrInvalid)
	expects(t, []hang{inOrder}, "an invalid cloth before state", allOf(lastWrong, noOrder), impl.ErrInvalid)
	expects(t, []hang{inOrder}, "limit before state", allOf(setCount(101), noOrder), impl.ErrLimit)
	expects(t, []hang{sagOf, leastSag, firstLines, fewestLines, whichLine}, "limit before what does not fit", allOf(setCount(8), wide, small), impl.ErrLimit)
	expects(t, []hang{fewestLines}, "limit before range", allOf(setCount(8), noBudget), impl.ErrLimit)
	expects(t, []hang{fewestLines}, "range before what does not fit", allOf(noBudget, small), impl.ErrRange)
	expects(t, []hang{fewestLines}, "what does not fit before the budget", allOf(smallBudget, small), impl.ErrNotFound)
	expects(t, []hang{fewestLines}, "the last one does not fit, and the budget is too small", allOf(smallBudget, func(a *hung) { a.l = line(59, 300) }), impl.ErrNotFound)
}

func anyLine(d *dice) impl.Line {
	if d.below(8) == 0 {
		return wrongLines()[d.below(len(wrongLines()))]
	}
	return line(int16(4+d.below(300)), int16(1+d.below(500)))
}

func anyCloths(d *dice) []impl.Cloth {
	list := d.cloths(d.below(9))
	if d.below(20) == 0 {
		list = d.cloths(95 + d.below(10))
	}
	if len(list) > 0 && d.below(6) == 0 {
		list[d.below(len(list))] = wrongCloths()[d.below(len(wrongCloths()))]
	}
	return list
}

// anyHung returns arguments that are mostly right for some of the functions, and wrong for others.
func anyHung(d *dice) hung {
	budgets := []int64{math.MinInt64, -1, 0, 1, 5, 10, 100, 20000, 20001, math.MaxInt64}
	a := hung{l: anyLine(d), list: anyCloths(d), budget: budgets[d.below(len(budgets))]}
	for range d.below(4) {
		a.kinds = append(a.kinds, anyLine(d))
	}
	count := max(0, len(a.list)+d.below(3)/2)
	for i := range count {
		a.order, a.lines = append(a.order, int64((i+3)%count)), append(a.lines, int64(d.below(4)))
	}
	if count > 0 && d.below(3) == 0 {
		a.order[d.below(count)], a.lines[d.below(count)] = budgets[d.below(6)], budgets[d.below(6)]
	}
	return a
}

// TestEveryArgumentOfLines calls all functions with any arguments: they return, with a code that can be.
func TestEveryArgumentOfLines(t *testing.T) {
	d := dice(31)
	for range 3000 {
		a := anyHung(&d)
		for _, c := range allHangs {
			text, code := c.make(a)
			if code < 0 || code > impl.ErrBudget || code == impl.ErrSyntax || code != impl.OK && text != zeroOf(c) {
				t.Fatalf("%s %v: %s %d", c.name, a, text, code)
			}
		}
		impl.ClothsText(a.list)
		impl.ValidCloths(a.list)
	}
}

func TestLongListsOfCloths(t *testing.T) {
	long := manyCloths(cloth(4, 1), 1000000)
	numbers := make([]int64, 1000000)
	kinds := slices.Repeat([]impl.Line{line(4, 1)}, 1000000)
	expects(t, allHangs, "a long list", func(a *hung) { a.list, a.order, a.lines = long, numbers, numbers }, impl.ErrLimit)
	expects(t, []hang{inOrder}, "a long order", func(a *hung) { a.order = numbers }, impl.ErrState)
	expects(t, []hang{checkLines}, "long lines", func(a *hung) { a.lines = numbers }, impl.OK)
	expects(t, []hang{whichLine}, "many lines", func(a *hung) { a.kinds = kinds }, impl.ErrNotFound)
	if impl.ClothsText(long) != "" || !impl.ValidCloths(long) {
		t.Error("a long list")
	}
	long[999999].Wide = 3
	expects(t, allHangs, "a long list, invalid at its end", func(a *hung) { a.list = long }, impl.ErrInvalid)
	kinds[999999].Long = 3
	expects(t, []hang{whichLine}, "many lines, invalid at their end", func(a *hung) { a.kinds = kinds }, impl.ErrInvalid)
}

func TestCodesOfCloths(t *testing.T) {
	for _, text := range []string{"50", strings.Repeat("4/1 ", 100) + "4/1"} {
		list, code := impl.ReadCloths(text)
		is(t, text, "[] syntax", list, impl.CodeName(code))
	}
}
