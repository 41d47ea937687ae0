package tests

import (
	"fmt"
	"math"
	"slices"
	"testing"

	"loop.example/g01378/impl"
)

// asked are the arguments of a call; each function takes those that it has.
type asked struct {
	r     impl.Rules
	hold  int64
	load  []impl.Garment
	list  []impl.Garment
	loads []int64
	each  int64
}

// call is a function of chapter 1 with a code: its results as text, and the code.
type call struct {
	name string
	make func(a asked) (string, int64)
}

func text1[A any](a A, code int64) (string, int64)         { return fmt.Sprint(a), code }
func text2[A, B any](a A, b B, code int64) (string, int64) { return fmt.Sprint(a, " ", b), code }

var (
	heatsFor  = call{"HeatsFor", func(a asked) (string, int64) { return text2(impl.HeatsFor(a.list)) }}
	sets      = call{"ColourSets", func(a asked) (string, int64) { return text1(impl.ColourSets(a.r)) }}
	isLoad    = call{"IsLoad", func(a asked) (string, int64) { return text1(impl.IsLoad(a.r, a.hold, a.list)) }}
	check     = call{"CheckLoads", func(a asked) (string, int64) { return text1(impl.CheckLoads(a.r, a.hold, a.list, a.loads)) }}
	greedy    = call{"GreedyLoads", func(a asked) (string, int64) { return text2(impl.GreedyLoads(a.r, a.hold, a.list)) }}
	fewest    = call{"FewestLoads", func(a asked) (string, int64) { return text2(impl.FewestLoads(a.r, a.hold, a.list)) }}
	costOf    = call{"CostOf", func(a asked) (string, int64) { return text1(impl.CostOf(a.r, a.hold, a.list, a.loads, a.each)) }}
	cheapest  = call{"CheapestLoads", func(a asked) (string, int64) { return text2(impl.CheapestLoads(a.r, a.hold, a.list, a.each)) }}
	apart     = call{"ApartSet", func(a asked) (string, int64) { return text1(impl.ApartSet(a.r, a.list)) }}
	bound     = call{"LoadsBound", func(a asked) (string, int64) { return text1(impl.LoadsBound(a.r, a.hold, a.list)) }}
	fitsWith  = call{"FitsWith", func(a asked) (string, int64) { return text1(impl.FitsWith(a.r, a.hold, a.load, a.list)) }}
	heaviest  = call{"HeaviestLoad", func(a asked) (string, int64) { return text2(impl.HeaviestLoad(a.r, a.hold, a.list)) }}
	withRules = []call{sets, isLoad, check, greedy, fewest, costOf, cheapest, apart, bound, fitsWith, heaviest}
	withHold  = []call{isLoad, check, greedy, fewest, costOf, cheapest, bound, fitsWith, heaviest}
	withEach  = []call{costOf, cheapest}
	withList  = []call{heatsFor, isLoad, check, greedy, fewest, costOf, cheapest, apart, bound, fitsWith, heaviest}
	withAlone = []call{greedy, fewest, cheapest}
)

// rightAsked has arguments with which all functions return OK.
func rightAsked() asked {
	return asked{pairs, 2000, slices.Clone(trio[2:]), slices.Clone(trio[1:]), []int64{3, 3}, 10}
}

// zero tells the zero values of a call as text.
func zero(c call) string {
	switch c.name {
	case "IsLoad", "CheckLoads":
		return "false"
	case "HeatsFor":
		return "0 0"
	case "CostOf", "LoadsBound":
		return "0"
	case "ColourSets", "ApartSet", "FitsWith":
		return "[]"
	}
	return "[] 0"
}

func wants(t *testing.T, calls []call, what string, change func(a *asked), code int64) {
	t.Helper()
	for _, c := range calls {
		a := rightAsked()
		change(&a)
		text, got := c.make(a)
		if got != code || code != impl.OK && text != zero(c) {
			t.Errorf("%s, %s: got %s with %d, want %d", c.name, what, text, got, code)
		}
	}
}

func TestAllIsRight(t *testing.T) {
	wants(t, append(withRules, heatsFor), "right", func(a *asked) {}, impl.OK)
}

func TestInvalid(t *testing.T) {
	for _, r := range []impl.Rules{{}, {1, 6, 6, 8, 16, 96}, {1, 6, 6, 8, 16, 160}, {1, 6, 4, 8, 16, 32}, {1, 6, 6, 8, 16, 33}, {1, 6, 6, 8, 16, 0}} {
		wants(t, withRules, "rules", func(a *asked) { a.r = r }, impl.ErrInvalid)
		meet, code := impl.MayMeet(r, trio[1], trio[2])
		is(t, "meet", "false 1", meet, code)
	}
	for _, g := range wrongGarments() {
		wants(t, withList, "a garment", func(a *asked) { a.list[1] = g }, impl.ErrInvalid)
		wants(t, withList, "a garment", func(a *asked) { a.list[0] = g }, impl.ErrInvalid)
		wants(t, []call{fitsWith}, "a garment of the load", func(a *asked) { a.load[0] = g }, impl.ErrInvalid)
		for _, two := range [][2]impl.Garment{{g, trio[1]}, {trio[1], g}, {g, g}} {
			meet, code := impl.MayMeet(pairs, two[0], two[1])
			is(t, "meet", "false 1", meet, code)
		}
	}
}

func TestRanges(t *testing.T) {
	for _, hold := range []int64{0, -1, 20001, math.MinInt64, math.MaxInt64, 1<<32 + 100} {
		wants(t, withHold, "hold", func(a *asked) { a.hold = hold }, impl.ErrRange)
	}
	for _, hold := range []int64{1200, 20000} {
		wants(t, []call{isLoad, check, greedy, fewest, costOf, cheapest, bound, heaviest}, "hold", func(a *asked) { a.hold = hold }, impl.OK)
	}
	wants(t, []call{isLoad, check, bound}, "the least hold", func(a *asked) { a.hold = 1 }, impl.OK)
	for _, each := range []int64{-1, 1001, math.MinInt64, math.MaxInt64} {
		wants(t, withEach, "each", func(a *asked) { a.each = each }, impl.ErrRange)
	}
	for _, each := range []int64{0, 1000} {
		wants(t, withEach, "each", func(a *asked) { a.each = each }, impl.OK)
	}
}

func TestLimits(t *testing.T) {
	light := garment(1, 0, 95, 1)
	eight := func(a *asked) { a.list, a.loads = repeat(light, 8), make([]int64, 8) }
	nine := func(a *asked) { a.list, a.loads = repeat(light, 9), make([]int64, 9) }
	wants(t, withList, "eight", eight, impl.OK)
	wants(t, withList, "nine", nine, impl.ErrLimit)
	wants(t, []call{fitsWith}, "a load of eight", func(a *asked) { a.load = repeat(light, 8) }, impl.OK)
	wants(t, []call{fitsWith}, "a load of nine", func(a *asked) { a.load = repeat(light, 9) }, impl.ErrLimit)
}

func TestStatesAndWhatIsNotFound(t *testing.T) {
	wants(t, []call{heatsFor}, "no heat", func(a *asked) { a.list[0].Need = 61; a.list[0].Most = 61 }, impl.ErrState)
	wants(t, []call{costOf}, "wrong loads", func(a *asked) { a.loads = nil }, impl.ErrState)
	wants(t, []call{costOf}, "too heavy", func(a *asked) { a.hold = 1199 }, impl.ErrState)
	wants(t, []call{fitsWith}, "no load", func(a *asked) { a.load = trio }, impl.ErrState)
	wants(t, []call{fitsWith}, "no load, and no list", func(a *asked) { a.load, a.list = trio, nil }, impl.ErrState)
	wants(t, []call{fitsWith}, "no garments", func(a *asked) { a.load = nil }, impl.OK)
	wants(t, []call{fitsWith}, "a load that is too heavy", func(a *asked) { a.hold = 899 }, impl.ErrState)
	wants(t, withAlone, "one is too heavy alone", func(a *asked) { a.hold = 899 }, impl.ErrNotFound)
	wants(t, withAlone, "one is just as heavy", func(a *asked) { a.hold = 900 }, impl.OK)
	wants(t, []call{heaviest}, "all are too heavy", func(a *asked) { a.hold = 299 }, impl.ErrNotFound)
	wants(t, []call{heaviest}, "no garments", func(a *asked) { a.list = nil }, impl.ErrNotFound)
	wants(t, []call{isLoad, check, bound}, "one is too heavy alone", func(a *asked) { a.hold = 1 }, impl.OK)
}

// TestOrderOfErrors makes several errors at once: the one that the document lists first counts.
func TestOrderOfErrors(t *testing.T) {
	wrongRules := func(a *asked) { a.r[0] = 0 }
	lastWrong := func(a *asked) { a.list = append(repeat(trio[2], 9), impl.Garment{}) }
	lastWrongOfLoad := func(a *asked) { a.load = append(repeat(trio[2], 9), impl.Garment{}) }
	noHold := func(a *asked) { a.hold = 0 }
	noEach := func(a *asked) { a.each = 1001 }
	nine := func(a *asked) { a.list = repeat(trio[2], 9) }
	nineOfLoad := func(a *asked) { a.load = repeat(trio[2], 9) }
	tooHeavy := func(a *asked) { a.hold = 1 }
	both := func(changes ...func(a *asked)) func(a *asked) {
		return func(a *asked) {
			for _, change := range changes {
				change(a)
			}
		}
	}
	wants(t, withHold, "invalid before range and limit", both(nine, wrongRules, noHold, noEach), impl.ErrInvalid)
	wants(t, withHold, "invalid before range and limit", both(lastWrong, noHold, noEach), impl.ErrInvalid)
	wants(t, []call{apart, heatsFor}, "invalid before limit", lastWrong, impl.ErrInvalid)
	wants(t, []call{fitsWith}, "invalid before limit", both(lastWrongOfLoad, noHold), impl.ErrInvalid)
	wants(t, []call{fitsWith}, "invalid of the list before limit of the load", both(nineOfLoad, lastWrong), impl.ErrInvalid)
	wants(t, []call{fitsWith}, "invalid of the load before limit of the list", both(nine, lastWrongOfLoad), impl.ErrInvalid)
	wants(t, withHold, "range before limit", both(nine, noHold), impl.ErrRange)
	wants(t, withEach, "range before limit", both(nine, noEach), impl.ErrRange)
	wants(t, []call{fitsWith}, "range before limit of the load", both(nineOfLoad, noHold), impl.ErrRange)
	wants(t, withEach, "range before state, and what is not found", both(noEach, tooHeavy), impl.ErrRange)
	wants(t, []call{costOf}, "limit before state", nine, impl.ErrLimit)
	wants(t, []call{fitsWith}, "limit of the load before state", both(nineOfLoad, tooHeavy), impl.ErrLimit)
	wants(t, []call{fitsWith}, "limit of the list before state", both(nine, tooHeavy), impl.ErrLimit)
	wants(t, append(withAlone, heaviest), "limit before what is not found", both(nine, tooHeavy), impl.ErrLimit)
	wants(t, []call{heatsFor}, "limit before state", func(a *asked) { a.list = append(repeat(trio[0], 8), trio[1]) }, impl.ErrLimit)
}

// TestEveryArgument calls all functions with arguments that are mostly wrong: they return, with a code that can be.
func TestEveryArgument(t *testing.T) {
	d := dice(13)
	numbers := []int64{math.MinInt64, -1, 0, 1, 7, 8, 1000, 1001, 20000, 20001, math.MaxInt64}
	number := func() int64 { return numbers[d.below(len(numbers))] }
	lists := func() []impl.Garment {
		list := d.garments(d.below(11))
		if len(list) > 0 && d.below(3) == 0 {
			list[d.below(len(list))] = wrongGarments()[d.below(16)]
		}
		return list
	}
	for range 5000 {
		a := asked{r: d.rules(), hold: number(), load: lists(), list: lists(), each: number()}
		if d.below(4) == 0 {
			a.r[d.below(6)] = uint8(d.below(256))
		}
		for range d.below(11) {
			a.loads = append(a.loads, number())
		}
		for _, c := range append(withRules, heatsFor) {
			text, code := c.make(a)
			if code < 0 || code > impl.ErrNotFound || code == impl.ErrSyntax || code != impl.OK && text != zero(c) {
				t.Fatalf("%s %v: %s %d", c.name, a, text, code)
			}
		}
		impl.SameGarments(a.list, a.load)
		impl.GarmentsText(a.list)
	}
}

func TestLongLists(t *testing.T) {
	long := repeat(garment(1, 0, 95, 1), 1000000)
	wants(t, withList, "a long list", func(a *asked) { a.list = long }, impl.ErrLimit)
	wants(t, []call{fitsWith}, "a long load", func(a *asked) { a.load = long }, impl.ErrLimit)
	wants(t, []call{costOf}, "long loads", func(a *asked) { a.loads = make([]int64, 1000000) }, impl.ErrState)
	wants(t, []call{check}, "long loads", func(a *asked) { a.loads = make([]int64, 1000000) }, impl.OK)
	if impl.GarmentsText(long) != "" || !impl.SameGarments(long, slices.Clone(long)) {
		t.Error("a long list")
	}
	long[999999].Weight = 0
	wants(t, withList, "a long list, invalid at its end", func(a *asked) { a.list = long }, impl.ErrInvalid)
}
