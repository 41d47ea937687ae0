package tests

import (
	"fmt"
	"math"
	"runtime"
	"slices"
	"testing"

	"loop.example/g01378/impl"
)

// outside are the arguments of a call; each function takes those that it has.
type outside struct {
	d        impl.Day
	t        impl.Weather
	w        impl.Wash
	list     []impl.Wash
	order    []int64
	sunny    []int64
	from, to int64
	places   int64
	thick    int64
	shade    bool
}

// drying is a function of chapter 3 with a code: its results as text, and the code.
type drying struct {
	name string
	make func(a outside) (string, int64)
}

var (
	dryHour     = drying{"DryHour", func(a outside) (string, int64) { return text1(impl.DryHour(a.w, a.t, a.shade)) }}
	wetBehind   = drying{"WetBehind", func(a outside) (string, int64) { return text1(impl.WetBehind(a.d, a.w, a.from, a.to, a.shade)) }}
	courseOf    = drying{"CourseOf", func(a outside) (string, int64) { return text1(impl.CourseOf(a.d, a.w, a.from, a.shade)) }}
	dryAt       = drying{"DryAt", func(a outside) (string, int64) { return text1(impl.DryAt(a.d, a.w, a.from, a.shade)) }}
	takeInAt    = drying{"TakeInAt", func(a outside) (string, int64) { return text2(impl.TakeInAt(a.d, a.w, a.from, a.shade)) }}
	fewestHours = drying{"FewestHours", func(a outside) (string, int64) { return text2(impl.FewestHours(a.d, a.w, a.shade)) }}
	latestStart = drying{"LatestStart", func(a outside) (string, int64) { return text1(impl.LatestStart(a.d, a.w, a.shade)) }}
	rainFrom    = drying{"RainFrom", func(a outside) (string, int64) { return text1(impl.RainFrom(a.d, a.from)) }}
	longestDry  = drying{"LongestDry", func(a outside) (string, int64) { return text2(impl.LongestDry(a.d)) }}
	sunOver     = drying{"SunOver", func(a outside) (string, int64) { return text1(impl.SunOver(a.d, a.from, a.to)) }}
	whoGetsSun  = drying{"WhoGetsSun", func(a outside) (string, int64) { return text2(impl.WhoGetsSun(a.d, a.list, a.from, a.to, a.places)) }}
	allDryAt    = drying{"AllDryAt", func(a outside) (string, int64) { return text1(impl.AllDryAt(a.d, a.list, a.from, a.sunny)) }}
	hangInOrder = drying{"HangInOrder", func(a outside) (string, int64) { return text1(impl.HangInOrder(a.d, a.list, a.order, a.from)) }}
	bestHanging = drying{"BestHanging", func(a outside) (string, int64) { return text2(impl.BestHanging(a.d, a.list, a.from)) }}
	wettestFor  = drying{"WettestFor", func(a outside) (string, int64) {
		return text1(impl.WettestFor(a.d, a.thick, a.from, a.to, a.shade))
	}}
	withDay    = []drying{wetBehind, courseOf, dryAt, takeInAt, fewestHours, latestStart, rainFrom, longestDry, sunOver, whoGetsSun, allDryAt, hangInOrder, bestHanging, wettestFor}
	allDryings = append([]drying{dryHour}, withDay...)
	ofOne      = []drying{dryHour, wetBehind, courseOf, dryAt, takeInAt, fewestHours, latestStart}
	withFrom   = []drying{wetBehind, courseOf, dryAt, takeInAt, rainFrom, sunOver, whoGetsSun, allDryAt, hangInOrder, bestHanging, wettestFor}
	withTo     = []drying{wetBehind, sunOver, whoGetsSun, wettestFor}
	withThings = []drying{whoGetsSun, allDryAt, hangInOrder, bestHanging}
)

// rightOutside has arguments with which all functions return OK.
func rightOutside() outside {
	return outside{
		d: rainyAt(2, 23), t: weather(2, 1, 0), w: wash(20, 2), list: []impl.Wash{wash(20, 2), wash(20, 4)},
		order: []int64{1, 0}, sunny: []int64{1, 0}, from: 0, to: 4, places: 1, thick: 2,
	}
}

// zeroOfDrying tells the zero values of a call as text.
func zeroOfDrying(c drying) string {
	switch c.name {
	case "DryHour":
		return "{0 0}"
	case "CourseOf", "HangInOrder":
		return "[]"
	case "WhoGetsSun", "BestHanging":
		return "[] 0"
	case "TakeInAt", "FewestHours", "LongestDry":
		return "0 0"
	}
	return "0"
}

func answers(t *testing.T, calls []drying, what string, code int64, changes ...func(a *outside)) {
	t.Helper()
	for _, c := range calls {
		a := rightOutside()
		allOf(changes...)(&a)
		text, got := c.make(a)
		if got != code || code != impl.OK && text != zeroOfDrying(c) {
			t.Errorf("%s, %s: got %s with %d, want %d", c.name, what, text, got, code)
		}
	}
}

// setThings sets how many things there are, all of which can be dry in a few hours, with an order for them.
func setThings(count int) func(a *outside) {
	return func(a *outside) {
		a.list, a.order, a.sunny = slices.Repeat([]impl.Wash{wash(5, 1)}, count), nil, nil
		for i := range count {
			a.order = append(a.order, int64(i))
		}
	}
}

func setFrom(from int64) func(a *outside) { return func(a *outside) { a.from = from } }
func setTo(to int64) func(a *outside)     { return func(a *outside) { a.to = to } }

// oddNumbers are no hours, and no small numbers; the low bits of some would be.
func oddNumbers() []int64 {
	return []int64{-1, 25, 26, -24, 256, 1 << 16, 1<<32 + 4, math.MaxInt64, math.MinInt64}
}

func TestAllDryingsRight(t *testing.T) {
	answers(t, allDryings, "right", impl.OK)
	answers(t, allDryings, "in the shade", impl.OK, setTo(2), func(a *outside) { a.shade = true })
	answers(t, withThings, "no things", impl.OK, setThings(0))
	answers(t, allDryings, "without water", impl.OK, setThings(3), func(a *outside) { a.w.Wet = 0 })
}

func TestInvalidWeather(t *testing.T) {
	for _, w := range wrongWeathers() {
		for _, h := range []int{0, 2, 23} { // also of an hour that does not count
			answers(t, withDay, fmt.Sprint(h, w), impl.ErrInvalid, func(a *outside) { a.d[h] = w })
		}
		answers(t, withThings, "no things", impl.ErrInvalid, setThings(0), func(a *outside) { a.d[23] = w })
		answers(t, []drying{dryHour}, fmt.Sprint(w), impl.ErrInvalid, func(a *outside) { a.t = w })
	}
}

func TestInvalidWashes(t *testing.T) {
	for _, w := range wrongWashes() {
		answers(t, ofOne, fmt.Sprint(w), impl.ErrInvalid, func(a *outside) { a.w = w })
		for at := range 3 {
			answers(t, withThings, fmt.Sprint(w), impl.ErrInvalid, func(a *outside) { a.list = slices.Insert(a.list, at, w) })
		}
	}
	answers(t, ofOne, "the limits", impl.OK, func(a *outside) { a.w = wash(0, 9) })
	answers(t, []drying{dryHour, wetBehind, courseOf, takeInAt}, "the limits", impl.OK, func(a *outside) { a.w = wash(1000, 1) })
}

func TestHours(t *testing.T) {
	for _, n := range oddNumbers() {
		answers(t, withFrom, fmt.Sprint("from ", n), impl.ErrRange, setFrom(n))
		answers(t, withFrom, fmt.Sprint("from and to ", n), impl.ErrRange, setFrom(n), setTo(n))
		answers(t, withFrom, fmt.Sprint("no things from ", n), impl.ErrRange, setThings(0), setFrom(n))
		answers(t, withTo, fmt.Sprint("to ", n), impl.ErrRange, setTo(n))
		answers(t, withTo, fmt.Sprint("no things to ", n), impl.ErrRange, setThings(0), setTo(n))
	}
	for from := int64(1); from <= 24; from++ {
		answers(t, withTo, "to less than from", impl.ErrRange, setFrom(from), setTo(from-1))
		answers(t, withTo, "to less than from", impl.ErrRange, setFrom(from), setTo(0))
		answers(t, withTo, "to as from", impl.OK, setFrom(from), setTo(from))
	}
	dryDay := func(a *outside) { a.d = fairDay() }
	answers(t, withTo, "all day", impl.OK, setTo(24), dryDay)
	answers(t, withTo, "the last hour", impl.OK, setFrom(23), setTo(24), dryDay)
	noWater := func(a *outside) { a.w.Wet, a.list[0].Wet, a.list[1].Wet = 0, 0, 0 }
	behindDay := []drying{wetBehind, courseOf, dryAt, takeInAt, sunOver, whoGetsSun, allDryAt, hangInOrder, bestHanging, wettestFor}
	answers(t, behindDay, "without water from 24 on", impl.OK, setFrom(24), setTo(24), noWater)
	answers(t, []drying{rainFrom, dryAt, allDryAt}, "from 24 on", impl.ErrNotFound, setFrom(24), setTo(24))
	answers(t, []drying{courseOf, takeInAt, hangInOrder, bestHanging}, "from 24 on", impl.OK, setFrom(24))
}

func TestPlacesAndThickness(t *testing.T) {
	for _, n := range append(oddNumbers(), 7) {
		answers(t, []drying{whoGetsSun}, fmt.Sprint("places ", n), impl.ErrRange, func(a *outside) { a.places = n })
		answers(t, []drying{whoGetsSun}, "no things", impl.ErrRange, setThings(0), func(a *outside) { a.places = n })
	}
	for places := range int64(7) {
		answers(t, []drying{whoGetsSun}, fmt.Sprint("places ", places), impl.OK, func(a *outside) { a.places = places })
	}
	for _, n := range append(oddNumbers(), 0, 10) {
		answers(t, []drying{wettestFor}, fmt.Sprint("thick ", n), impl.ErrRange, func(a *outside) { a.thick = n })
		answers(t, []drying{wettestFor}, "no hours", impl.ErrRange, setTo(0), func(a *outside) { a.thick = n })
	}
	for thick := int64(1); thick <= 9; thick++ {
		answers(t, []drying{wettestFor}, fmt.Sprint("thick ", thick), impl.OK, setTo(1), func(a *outside) { a.thick = thick })
	}
}

func TestLimitsOfThings(t *testing.T) {
	answers(t, withThings, "six", impl.OK, setThings(6))
	answers(t, withThings, "seven", impl.ErrLimit, setThings(7))
	answers(t, withThings, "eight", impl.ErrLimit, setThings(8))
	answers(t, []drying{allDryAt}, "six in the sun", impl.OK, setThings(6), func(a *outside) { a.sunny = []int64{5, 4, 3, 2, 1, 0} })
	answers(t, []drying{whoGetsSun}, "places for six", impl.OK, setThings(6), func(a *outside) { a.places = 6 })
}

func TestIndicesOfSunny(t *testing.T) {
	for _, sunny := range [][]int64{
		{2}, {-1}, {0, 2}, {2, 0}, {0, 0}, {1, 1}, {0, 1, 0}, {0, 1, 1}, {0, 1, 2}, {1, -1}, {1 << 32}, {256}, {math.MaxInt64}, {math.MinInt64}, {0, 1 + 1<<32},
	} {
		answers(t, []drying{allDryAt}, fmt.Sprint(sunny), impl.ErrRange, func(a *outside) { a.sunny = sunny })
	}
	for _, sunny := range [][]int64{nil, {0}, {1}, {0, 1}, {1, 0}} {
		answers(t, []drying{allDryAt}, fmt.Sprint(sunny), impl.OK, func(a *outside) { a.sunny, a.list = sunny, []impl.Wash{wash(20, 2), wash(20, 2)} })
	}
	answers(t, []drying{allDryAt}, "an index of no things", impl.ErrRange, setThings(0), func(a *outside) { a.sunny = []int64{0} })
}

func TestOrdersOfHangingThatAreNone(t *testing.T) {
	for _, order := range [][]int64{
		nil, {0}, {1}, {0, 0}, {1, 1}, {0, 2}, {2, 1}, {-1, 0}, {0, -1}, {0, 1, 0}, {0, 1, 2}, {0, 1 + 1<<32}, {256, 1}, {math.MinInt64, 0}, {1, math.MaxInt64},
	} {
		answers(t, []drying{hangInOrder}, fmt.Sprint(order), impl.ErrState, func(a *outside) { a.order = order })
		answers(t, []drying{hangInOrder}, "behind the day", impl.ErrState, setFrom(24), func(a *outside) { a.order = order })
	}
	answers(t, []drying{hangInOrder}, "an index of no things", impl.ErrState, setThings(0), func(a *outside) { a.order = []int64{0} })
}

func TestWhatIsNeverDry(t *testing.T) {
	allDay := func(a *outside) { a.d = dayOf(weather(9, 9, 1)) }
	noRain := func(a *outside) { a.d = fairDay() }
	noWater := func(a *outside) { a.w.Wet, a.list[0].Wet, a.list[1].Wet = 0, 0, 0 }
	dry := []drying{dryAt, fewestHours, latestStart, allDryAt}
	answers(t, append(dry, longestDry, wettestFor), "it rains all day", impl.ErrNotFound, allDay)
	answers(t, dry, "without water in the rain", impl.OK, allDay, noWater)
	answers(t, []drying{rainFrom, dryHour, wetBehind, courseOf, takeInAt, sunOver, whoGetsSun, hangInOrder, bestHanging}, "it rains all day", impl.OK, allDay)
	answers(t, []drying{rainFrom}, "no rain", impl.ErrNotFound, noRain)
	answers(t, []drying{rainFrom}, "no rain from then on", impl.ErrNotFound, noRain, func(a *outside) { a.d[2].Rain = 1 }, setFrom(3))
	answers(t, []drying{wettestFor}, "wet even with 0", impl.ErrNotFound, setTo(3))
	answers(t, []drying{dryAt, allDryAt}, "too late", impl.ErrNotFound, setFrom(22))
	answers(t, []drying{wettestFor}, "no hours", impl.OK, allDay, setTo(0))
}

// TestOrderOfErrorsOfDrying makes several errors at once: the one that the document lists first counts.
func TestOrderOfErrorsOfDrying(t *testing.T) {
	wrongDay := func(a *outside) { a.d[23].Wind = 10 }
	wrongWash := func(a *outside) { a.w.Thick = 0 }
	lastWrong := func(a *outside) { a.list = append(a.list, wash(1001, 1)) }
	late, early := setFrom(25), setTo(-1)
	noPlaces := func(a *outside) { a.places = -1 }
	noThickness := func(a *outside) { a.thick = 10 }
	seven := setThings(7)
	twice := func(a *outside) { a.sunny = []int64{0, 0} }
	missing := func(a *outside) { a.sunny = []int64{7} }
	noOrder := func(a *outside) { a.order = nil }
	rain := func(a *outside) { a.d = dayOf(weather(9, 9, 9)) }
	answers(t, withFrom, "an invalid day before the rest", impl.ErrInvalid, seven, rain, wrongDay, late, early, noPlaces, noThickness, twice, noOrder)
	answers(t, withThings, "an invalid thing before the rest", impl.ErrInvalid, seven, rain, lastWrong, late, early, noPlaces, twice, noOrder)
	answers(t, []drying{wetBehind, courseOf, dryAt, takeInAt}, "an invalid thing before range", impl.ErrInvalid, wrongWash, late, early)
	answers(t, []drying{fewestHours, latestStart}, "an invalid thing before what is not found", impl.ErrInvalid, rain, wrongWash)
	answers(t, []drying{longestDry}, "an invalid day before what is not found", impl.ErrInvalid, rain, wrongDay)
	answers(t, withThings, "hours before limit", impl.ErrRange, seven, late)
	answers(t, []drying{whoGetsSun}, "the end before limit", impl.ErrRange, seven, early)
	answers(t, []drying{whoGetsSun}, "places before limit", impl.ErrRange, seven, noPlaces)
	answers(t, []drying{allDryAt}, "an index that comes twice before limit", impl.ErrRange, seven, twice)
	answers(t, []drying{allDryAt}, "an index that does not exist before limit", impl.ErrRange, seven, missing)
	answers(t, []drying{allDryAt}, "an index that exists, but limit", impl.ErrLimit, seven, func(a *outside) { a.sunny = []int64{6} })
	answers(t, []drying{hangInOrder}, "range before state", impl.ErrRange, late, noOrder)
	answers(t, []drying{hangInOrder}, "limit before state", impl.ErrLimit, seven, noOrder)
	answers(t, []drying{allDryAt}, "limit before what is not found", impl.ErrLimit, seven, rain)
	answers(t, []drying{allDryAt}, "an index before what is not found", impl.ErrRange, rain, twice)
	answers(t, []drying{dryAt, rainFrom, wettestFor, allDryAt}, "hours before what is not found", impl.ErrRange, rain, late)
	answers(t, []drying{wettestFor}, "thick before what is not found", impl.ErrRange, rain, noThickness)
}

func anyOf(d *dice, usual int) int64 {
	if d.below(10) == 0 {
		wrong := oddNumbers()
		return wrong[d.below(len(wrong))]
	}
	return int64(d.below(usual))
}

func anyWash(d *dice) impl.Wash {
	if d.below(20) == 0 {
		return wrongWashes()[d.below(len(wrongWashes()))]
	}
	return d.wash()
}

// anyOutside returns arguments that are mostly right for some of the functions, and wrong for others.
func anyOutside(d *dice) outside {
	wrong := wrongWeathers()
	a := outside{d: d.day(), w: anyWash(d), from: anyOf(d, 25), places: anyOf(d, 8), thick: anyOf(d, 11), shade: d.shade()}
	a.to = anyOf(d, 25)
	if a.from >= 0 && a.from < 24 && d.below(4) > 0 {
		a.to = a.from + int64(d.below(int(25-a.from)))
	}
	a.t = a.d[d.below(24)]
	if d.below(10) == 0 {
		a.t = wrong[d.below(len(wrong))]
	}
	if d.below(10) == 0 {
		a.d[d.below(24)] = wrong[d.below(len(wrong))]
	}
	count := d.below(8)
	for i := range count {
		a.list = append(a.list, anyWash(d))
		a.order = append(a.order, int64((i+3)%count))
		if d.below(2) == 0 {
			a.sunny = slices.Insert(a.sunny, d.below(len(a.sunny)+1), int64(i))
		}
	}
	if count > 0 && d.below(4) == 0 {
		a.order[d.below(count)] = anyOf(d, count)
	}
	if len(a.sunny) > 0 && d.below(4) == 0 {
		a.sunny[d.below(len(a.sunny))] = anyOf(d, count)
	}
	return a
}

// TestEveryArgumentOfDrying calls all functions with any arguments: they return, with a code that can be.
func TestEveryArgumentOfDrying(t *testing.T) {
	d := dice(50)
	codes := []int64{impl.OK, impl.ErrInvalid, impl.ErrRange, impl.ErrLimit, impl.ErrState, impl.ErrNotFound}
	right := map[string]int{}
	for range 2000 {
		a := anyOutside(&d)
		for _, c := range allDryings {
			text, code := c.make(a)
			if !slices.Contains(codes, code) || code != impl.OK && text != zeroOfDrying(c) {
				t.Fatalf("%s %v: %s %d", c.name, a, text, code)
			}
			if code == impl.OK {
				right[c.name]++
			}
		}
	}
	for _, c := range allDryings {
		if right[c.name] < 100 {
			t.Errorf("%s returns OK only %d times", c.name, right[c.name])
		}
	}
}

func TestLongListsOfThings(t *testing.T) {
	long := slices.Repeat([]impl.Wash{wash(5, 1)}, 1000000)
	numbers := make([]int64, 1000000)
	counted := make([]int64, 1000000)
	for i := range counted {
		counted[i] = int64(i)
	}
	answers(t, withThings, "a long list", impl.ErrLimit, func(a *outside) { a.list, a.order = long, numbers })
	answers(t, []drying{allDryAt}, "a long list in the sun", impl.ErrLimit, func(a *outside) { a.list, a.sunny = long, counted })
	answers(t, []drying{allDryAt}, "many indices", impl.ErrRange, func(a *outside) { a.sunny = numbers })
	answers(t, []drying{hangInOrder}, "a long order", impl.ErrState, func(a *outside) { a.order = numbers })
	long[999999].Thick = 0
	answers(t, withThings, "a long list, invalid at its end", impl.ErrInvalid, func(a *outside) { a.list = long })
}

// TestNothingGoesOn looks for goroutines that are left behind by calls that have returned.
func TestNothingGoesOn(t *testing.T) {
	d := dice(51)
	before := runtime.NumGoroutine()
	for range 500 {
		a := anyOutside(&d)
		for _, c := range allDryings {
			c.make(a)
		}
	}
	for range 1000 {
		runtime.Gosched() // one that has sent its last water may still have to end
	}
	if after := runtime.NumGoroutine(); after > before+50 {
		t.Errorf("%d goroutines before, and %d after", before, after)
	}
}
