package tests

import (
	"fmt"
	"slices"
	"testing"

	"loop.example/g01378/impl"
)

func TestRainFrom(t *testing.T) {
	for _, c := range []struct {
		d    impl.Day
		from int64
		want string
	}{
		{rainyAt(2), 0, "2 0"}, {rainyAt(2), 1, "2 0"}, {rainyAt(2), 2, "2 0"}, {rainyAt(2), 3, "0 6"},
		{rainyAt(2, 7), 3, "7 0"}, {rainyAt(0), 0, "0 0"}, {rainyAt(0), 1, "0 6"}, {rainyAt(23), 0, "23 0"}, {rainyAt(23), 23, "23 0"},
		{rainyAt(23), 24, "0 6"}, {fairDay(), 0, "0 6"}, {fairDay(), 24, "0 6"}, {dayOf(weather(9, 9, 9)), 13, "13 0"},
		{dayOf(weather(9, 9, 9)), 24, "0 6"},
	} {
		hour, code := impl.RainFrom(c.d, c.from)
		is(t, fmt.Sprint(c.d, c.from), c.want, hour, code)
	}
}

// dryOnlyAt returns a day with rain in all hours but some.
func dryOnlyAt(hours ...int) impl.Day {
	d := dayOf(weather(2, 1, 9))
	for _, h := range hours {
		d[h].Rain = 0
	}
	return d
}

func TestLongestDry(t *testing.T) {
	for _, c := range []struct {
		d    impl.Day
		want string
	}{
		{fairDay(), "0 24 0"}, {rainyAt(2), "3 21 0"}, {rainyAt(0), "1 23 0"}, {rainyAt(23), "0 23 0"}, {rainyAt(0, 23), "1 22 0"},
		{rainyAt(12), "0 12 0"}, {rainyAt(11), "12 12 0"},
		{rainyAt(8, 17), "0 8 0"},  // 8, 8 and 6
		{rainyAt(7, 15), "16 8 0"}, // 7, 7 and 8
		{rainyAt(5, 11, 17), "18 6 0"},
		{rainyAt(6, 13, 20), "0 6 0"},
		{dryOnlyAt(0), "0 1 0"}, {dryOnlyAt(23), "23 1 0"}, {dryOnlyAt(0, 23), "0 1 0"}, {dryOnlyAt(0, 22, 23), "22 2 0"}, // a day ends at its end
		{dryOnlyAt(3, 5, 6, 9, 10), "5 2 0"}, {dryOnlyAt(), "0 0 6"}, {dayOf(weather(9, 9, 1)), "0 0 6"},
	} {
		first, hours, code := impl.LongestDry(c.d)
		is(t, fmt.Sprint(c.d), c.want, first, hours, code)
	}
}

func TestSunOver(t *testing.T) {
	rising := rainyAt(3) // sun counts in rain as well
	for h := range rising {
		rising[h].Sun = int8(h % 10)
	}
	for _, c := range []struct {
		from, to int64
		want     string
	}{
		{0, 0, "0 0"}, {24, 24, "0 0"}, {3, 3, "0 0"}, {3, 4, "3 0"}, {2, 5, "9 0"}, {0, 10, "45 0"}, {9, 10, "9 0"}, {9, 11, "9 0"},
		{23, 24, "3 0"}, {20, 24, "6 0"}, {0, 24, "96 0"}, {0, 23, "93 0"}, {1, 24, "96 0"},
	} {
		sum, code := impl.SunOver(rising, c.from, c.to)
		is(t, fmt.Sprint(c.from, c.to), c.want, sum, code)
	}
	sum, code := impl.SunOver(dayOf(weather(9, 0, 0)), 0, 24)
	is(t, "as much as can be", "216 0", sum, code)
}

func TestWeatherAhead(t *testing.T) {
	d := dice(45)
	for range 2000 {
		day := d.day()
		from := d.below(25)
		to := from + d.below(25-from)
		rain, sun := "0 6", 0
		if k := slices.IndexFunc(day[from:], func(w impl.Weather) bool { return w.Rain > 0 }); k >= 0 {
			rain = fmt.Sprint(from+k, 0)
		}
		for _, w := range day[from:to] {
			sun += int(w.Sun)
		}
		hour, code := impl.RainFrom(day, int64(from))
		is(t, fmt.Sprint("rain ", day, from), rain, hour, code)
		sum, code := impl.SunOver(day, int64(from), int64(to))
		is(t, fmt.Sprint("sun ", day, from, to), fmt.Sprint(sun, 0), sum, code)
		is(t, fmt.Sprint("dry ", day), naiveLongestDry(day), results3(impl.LongestDry(day)))
	}
}

// naiveLongestDry looks at all runs, the longest ones first.
func naiveLongestDry(day impl.Day) string {
	for hours := 24; hours > 0; hours-- {
		for first := 0; first+hours <= 24; first++ {
			if !slices.ContainsFunc(day[first:first+hours], func(w impl.Weather) bool { return w.Rain > 0 }) {
				return fmt.Sprint(first, hours, 0)
			}
		}
	}
	return "0 0 6"
}

func results3(a, b, code int64) string {
	return fmt.Sprint(a, b, code)
}

func TestWhoGetsSun(t *testing.T) {
	same := []impl.Wash{wash(20, 2), wash(20, 2), wash(20, 2)}
	mixedList := []impl.Wash{wash(20, 4), wash(20, 2), wash(0, 2), wash(100, 2)} // in 4 hours they lose 8, 20, 0 and 20 in the sun, and 4, 8, 0 and 8 in the shade
	for _, c := range []struct {
		d                impl.Day
		list             []impl.Wash
		from, to, places int64
		want             string
	}{
		{fairDay(), []impl.Wash{wash(20, 2), wash(20, 4)}, 0, 4, 1, "[0] 16 0"},
		{fairDay(), []impl.Wash{wash(20, 4), wash(20, 2)}, 0, 4, 1, "[1] 16 0"},
		{fairDay(), []impl.Wash{wash(20, 2), wash(20, 4)}, 0, 4, 0, "[] 28 0"},
		{fairDay(), []impl.Wash{wash(20, 2), wash(20, 4)}, 0, 4, 2, "[0 1] 12 0"},
		{fairDay(), []impl.Wash{wash(20, 2), wash(20, 4)}, 0, 4, 6, "[0 1] 12 0"}, // more places than things
		{fairDay(), nil, 0, 24, 6, "[] 0 0"},
		{fairDay(), nil, 0, 24, 0, "[] 0 0"},
		{fairDay(), same, 0, 4, 1, "[0] 24 0"}, // the first ones of several
		{fairDay(), same, 0, 4, 2, "[0 1] 12 0"},
		{fairDay(), same, 0, 4, 3, "[0 1 2] 0 0"},
		{fairDay(), same, 5, 5, 3, "[] 60 0"},   // no hours: none gains
		{fairDay(), same, 0, 24, 3, "[] 0 0"},   // they are dry in the shade as well
		{fairDay(), same, 24, 24, 3, "[] 60 0"}, // behind the day
		{fairDay(), mixedList, 0, 4, 1, "[1] 108 0"},
		{fairDay(), mixedList, 0, 4, 2, "[1 3] 96 0"},
		{fairDay(), mixedList, 0, 4, 3, "[0 1 3] 92 0"},
		{fairDay(), mixedList, 0, 4, 4, "[0 1 2 3] 92 0"}, // the one without water gains nothing, but 2 comes before 3
		{fairDay(), []impl.Wash{wash(0, 2), wash(20, 2)}, 0, 4, 2, "[0 1] 0 0"},
		{fairDay(), []impl.Wash{wash(20, 2), wash(0, 2)}, 0, 4, 2, "[0] 0 0"}, // a list comes before those that begin with it
		{fairDay(), []impl.Wash{wash(0, 2), wash(20, 2)}, 0, 4, 1, "[1] 0 0"},
		{dayOf(weather(0, 9, 0)), same, 0, 1, 3, "[] 30 0"},    // there is no sun: 10 each
		{dayOf(weather(9, 9, 9)), same, 0, 24, 3, "[] 3000 0"}, // it rains all day
		{rainyAt(2), []impl.Wash{wash(20, 2), wash(20, 4)}, 0, 3, 1, "[0] 38 0"},
		{fairDay(), slices.Repeat([]impl.Wash{wash(50, 2)}, 6), 0, 4, 6, "[0 1 2 3 4 5] 180 0"},
		{fairDay(), slices.Repeat([]impl.Wash{wash(50, 2)}, 6), 0, 4, 5, "[0 1 2 3 4] 192 0"},
	} {
		sunny, sum, code := impl.WhoGetsSun(c.d, c.list, c.from, c.to, c.places)
		is(t, fmt.Sprint(c.d, c.list, c.from, c.to, c.places), c.want, sunny, sum, code)
	}
}

func TestNoOtherThingsInTheSunLeaveLess(t *testing.T) {
	d := dice(46)
	ties := 0
	for range 1500 {
		day, list := d.day(), d.washes(d.below(7))
		from, places := int64(d.below(25)), int64(d.below(7))
		to := from + int64(d.below(25-int(from)))
		var best []int64
		least, as := naiveWater(day, list, from, to, nil), 0
		for _, sunny := range everyIndices(len(list)) {
			sum := naiveWater(day, list, from, to, sunny)
			if int64(len(sunny)) > places {
				continue
			}
			if sum < least {
				best, least, as = sunny, sum, 0
			} else if sum == least {
				as++
			}
		}
		if as > 1 {
			ties++
		}
		sunny, sum, code := impl.WhoGetsSun(day, list, from, to, places)
		is(t, fmt.Sprint(day, list, from, to, places), fmt.Sprint(best, least, 0), sunny, sum, code)
	}
	if ties < 200 {
		t.Errorf("only %d have several ones", ties)
	}
}

func TestAllDryAt(t *testing.T) {
	two := []impl.Wash{wash(20, 2), wash(20, 4)} // dry at 4 and 10 in the sun, at 10 and 20 in the shade
	// The thin one is dry at 2, and wet again behind the rain of the hour 2, at 5; the thick one only at 8.
	again := []impl.Wash{wash(2, 9), wash(15, 2)}
	for _, c := range []struct {
		d     impl.Day
		list  []impl.Wash
		from  int64
		sunny []int64
		want  string
	}{
		{fairDay(), two, 0, []int64{0, 1}, "10 0"},
		{fairDay(), two, 0, []int64{1, 0}, "10 0"}, // in any order
		{fairDay(), two, 0, []int64{1}, "10 0"},
		{fairDay(), two, 0, []int64{0}, "20 0"},
		{fairDay(), two, 0, nil, "20 0"},
		{fairDay(), two, 4, nil, "24 0"},
		{fairDay(), two, 5, nil, "0 6"},
		{fairDay(), two, 14, []int64{0, 1}, "24 0"},
		{fairDay(), two, 15, []int64{0, 1}, "0 6"},
		{fairDay(), nil, 0, nil, "0 0"},
		{fairDay(), nil, 24, nil, "24 0"},
		{dayOf(weather(9, 9, 9)), nil, 7, nil, "7 0"},
		{fairDay(), []impl.Wash{wash(0, 1), wash(0, 9)}, 24, []int64{1}, "24 0"},
		{dayOf(weather(9, 9, 9)), []impl.Wash{wash(0, 1), wash(0, 9)}, 3, nil, "3 0"},
		{fairDay(), []impl.Wash{wash(0, 1), wash(1, 9)}, 24, []int64{1}, "0 6"},
		{rainyAt(2), again, 0, []int64{0, 1}, "8 0"}, // not 5, at which each one has been dry
		{rainyAt(2), again[:1], 0, []int64{0}, "2 0"},
		{rainyAt(2), again[1:], 0, []int64{0}, "5 0"},
		{rainyAt(2, 22), again, 20, []int64{0, 1}, "0 6"}, // one is dry at 22, the other one has 5, and it rains then
		{dayOf(weather(9, 9, 1)), two, 0, []int64{0, 1}, "0 6"},
		{fairDay(), slices.Repeat([]impl.Wash{wash(20, 2)}, 6), 0, []int64{5, 3, 1, 0, 2, 4}, "4 0"},
		{fairDay(), slices.Repeat([]impl.Wash{wash(20, 2)}, 6), 0, []int64{5, 3, 1, 0, 2}, "10 0"},
	} {
		hour, code := impl.AllDryAt(c.d, c.list, c.from, c.sunny)
		is(t, fmt.Sprint(c.d, c.list, c.from, c.sunny), c.want, hour, code)
	}
}

func TestAllAreDryTogether(t *testing.T) {
	d := dice(47)
	found, later := 0, 0
	for range 2000 {
		day, list := d.day(), d.washes(d.below(5))
		from := int64(d.below(25))
		if d.below(2) == 0 { // little water and little rain, so that some are dry again and again
			day, from = d.dryDay(), int64(d.below(6))
			for range d.below(4) {
				day[d.below(16)].Rain = 1
			}
			for i := range list {
				list[i].Wet = int16(d.below(16))
			}
		}
		sets := everyIndices(len(list))
		sunny := slices.Clone(sets[d.below(len(sets))])
		shade := func(i int64) bool { return !slices.Contains(sunny, i) }
		want, single := "0 6", from
		for i, w := range list {
			single = max(single, naiveDryAlone(day, w, from, shade(int64(i))))
		}
		if hour := naiveDryAt(day, list, from, shade); hour >= 0 {
			want = fmt.Sprint(hour, 0)
			found++
			if hour > single {
				later++
			}
		}
		slices.Reverse(sunny)
		hour, code := impl.AllDryAt(day, list, from, sunny)
		is(t, fmt.Sprint(day, list, from, sunny), want, hour, code)
	}
	if found < 500 || found > 1500 || later < 5 { // of 2000
		t.Errorf("%d are dry, and %d later than each one: the things do not suit the days", found, later)
	}
}

func TestHangInOrder(t *testing.T) {
	list := []impl.Wash{wash(20, 2), wash(20, 4), wash(10, 2)} // they lose 5, 2 and 5 in an hour
	for _, c := range []struct {
		d     impl.Day
		list  []impl.Wash
		order []int64
		from  int64
		want  string
	}{
		{fairDay(), list, []int64{0, 1, 2}, 20, "[0 14 0] 0"},
		{fairDay(), list, []int64{1, 0, 2}, 20, "[12 5 0] 0"}, // by the order, not by the list
		{fairDay(), list, []int64{2, 0, 1}, 20, "[0 5 16] 0"},
		{fairDay(), list, []int64{1, 2, 0}, 20, "[12 0 10] 0"},
		{fairDay(), list, []int64{0, 1, 2}, 22, "[10 18 10] 0"}, // the last one would hang from 24 on
		{fairDay(), list, []int64{0, 1, 2}, 23, "[15 20 10] 0"},
		{fairDay(), list, []int64{2, 1, 0}, 24, "[10 20 20] 0"},
		{rainyAt(23), list, []int64{0, 1, 2}, 22, "[20 25 10] 0"}, // the last one hangs behind the rain
		{rainyAt(20), list, []int64{0, 1, 2}, 20, "[10 14 0] 0"},  // only the first one hangs in the rain
		{rainyAt(23), []impl.Wash{wash(0, 1)}, []int64{0}, 3, "[5] 0"},
		{fairDay(), nil, nil, 0, "[] 0"},
		{fairDay(), nil, nil, 24, "[] 0"},
		{fairDay(), slices.Repeat([]impl.Wash{wash(30, 2)}, 6), []int64{5, 4, 3, 2, 1, 0}, 18, "[0 5 10 15 20 25] 0"},
		{fairDay(), slices.Repeat([]impl.Wash{wash(30, 2)}, 6), []int64{5, 4, 3, 2, 1, 0}, 24, "[30 30 30 30 30 30] 0"},
		{dayOf(weather(9, 9, 9)), list, []int64{0, 1, 2}, 21, "[155 110 55] 0"},
	} {
		left, code := impl.HangInOrder(c.d, c.list, c.order, c.from)
		is(t, fmt.Sprint(c.d, c.list, c.order, c.from), c.want, left, code)
	}
}

func TestBestHanging(t *testing.T) {
	for _, c := range []struct {
		d    impl.Day
		list []impl.Wash
		from int64
		want string
	}{
		{fairDay(), []impl.Wash{wash(10, 2), wash(20, 2)}, 20, "[1 0] 0 0"},
		{fairDay(), []impl.Wash{wash(20, 2), wash(10, 2)}, 20, "[0 1] 0 0"},
		{fairDay(), []impl.Wash{wash(20, 2), wash(20, 2)}, 20, "[0 1] 5 0"}, // the first one of several
		{fairDay(), []impl.Wash{wash(20, 2), wash(10, 2)}, 0, "[0 1] 0 0"},
		{fairDay(), []impl.Wash{wash(10, 2), wash(20, 2)}, 0, "[0 1] 0 0"},
		{fairDay(), []impl.Wash{wash(100, 4), wash(100, 2), wash(100, 1)}, 21, "[2 1 0] 258 0"}, // 30, 10 and 2 are lost
		{fairDay(), []impl.Wash{wash(100, 4), wash(100, 1), wash(100, 2)}, 22, "[1 2 0] 275 0"}, // 20 and 5; the last one does not hang
		{fairDay(), []impl.Wash{wash(20, 2), wash(30, 1)}, 24, "[0 1] 50 0"},
		{fairDay(), nil, 0, "[] 0 0"},
		{fairDay(), nil, 24, "[] 0 0"},
		{fairDay(), []impl.Wash{wash(20, 2)}, 23, "[0] 15 0"},
		{dayOf(weather(9, 9, 9)), []impl.Wash{wash(0, 1), wash(970, 1)}, 22, "[1 0] 1045 0"}, // what is nearly as wet as can be gets less
		{fairDay(), slices.Repeat([]impl.Wash{wash(30, 2)}, 6), 18, "[0 1 2 3 4 5] 75 0"},
		{fairDay(), []impl.Wash{wash(5, 2), wash(10, 2), wash(15, 2), wash(20, 2), wash(25, 2), wash(30, 2)}, 18, "[5 4 3 2 1 0] 0 0"},
	} {
		order, sum, code := impl.BestHanging(c.d, c.list, c.from)
		is(t, fmt.Sprint(c.d, c.list, c.from), c.want, order, sum, code)
	}
}

func TestNoOtherOrderOfHangingLeavesLess(t *testing.T) {
	d := dice(48)
	ties, turned := 0, 0
	for count, runs := range []int{2, 20, 100, 200, 200, 80, 30} {
		all := everyOrder(count)
		for range runs {
			day, list := d.day(), d.washes(count)
			from := int64(d.below(25))
			var best []int64
			least, as := int64(0), 0
			for i, order := range all {
				switch sum := total(naiveLeft(day, list, order, from)); {
				case i == 0 || sum < least:
					best, least, as = order, sum, 0
				case sum == least:
					as++
				}
			}
			order, sum, code := impl.BestHanging(day, list, from)
			is(t, fmt.Sprint(day, list, from), fmt.Sprint(best, least, 0), order, sum, code)
			left, code := impl.HangInOrder(day, list, order, from)
			is(t, fmt.Sprint(day, list, order, from), fmt.Sprint(naiveLeft(day, list, order, from), 0), left, code)
			if as > 0 {
				ties++
			}
			if !slices.Equal(best, all[0]) {
				turned++
			}
		}
	}
	if ties < 100 || turned < 100 {
		t.Errorf("%d have several ones, and %d another order than their own: the things do not suit the days", ties, turned)
	}
}

func TestEveryOrderOfHanging(t *testing.T) {
	d := dice(49)
	for count := range 6 {
		for _, order := range everyOrder(count) {
			day, list, from := d.day(), d.washes(count), int64(d.below(25))
			left, code := impl.HangInOrder(day, list, order, from)
			is(t, fmt.Sprint(day, list, order, from), fmt.Sprint(naiveLeft(day, list, order, from), 0), left, code)
		}
	}
}
