package tests

import (
	"fmt"
	"slices"
	"testing"

	"loop.example/g01378/impl"
)

func TestValidDay(t *testing.T) {
	for _, d := range []impl.Day{{}, fairDay(), rainyAt(0, 23), dayOf(weather(9, 9, 9)), dayOf(weather(9, 0, 0)), dayOf(weather(0, 9, 0)), dayOf(weather(0, 0, 9))} {
		if !impl.ValidDay(d) {
			t.Errorf("not valid: %v", d)
		}
	}
	for _, w := range wrongWeathers() {
		for h := range 24 {
			d := fairDay()
			d[h] = w
			if impl.ValidDay(d) {
				t.Errorf("valid: %v", d)
			}
		}
	}
}

func TestValidWash(t *testing.T) {
	for _, w := range []impl.Wash{wash(0, 1), wash(0, 9), wash(1000, 1), wash(1000, 9), wash(20, 2)} {
		if !impl.ValidWash(w) {
			t.Errorf("not valid: %v", w)
		}
	}
	for _, w := range wrongWashes() {
		if impl.ValidWash(w) {
			t.Errorf("valid: %v", w)
		}
	}
}

func TestDryHour(t *testing.T) {
	for _, c := range []struct {
		w          impl.Wash
		t          impl.Weather
		sun, shade int16
	}{
		{wash(20, 2), weather(2, 1, 0), 15, 18},
		{wash(20, 3), weather(2, 1, 0), 17, 19}, // 10 and 4, by 3
		{wash(20, 9), weather(2, 1, 0), 19, 20}, // 10 and 4, by 9
		{wash(20, 5), weather(2, 1, 0), 18, 20},
		{wash(5, 1), weather(0, 0, 0), 3, 3},
		{wash(5, 2), weather(0, 0, 0), 4, 4},
		{wash(5, 3), weather(0, 0, 0), 5, 5},
		{wash(1000, 1), weather(9, 9, 0), 953, 980},
		{wash(1000, 9), weather(9, 9, 0), 995, 998},
		{wash(47, 1), weather(9, 9, 0), 0, 27},
		{wash(48, 1), weather(9, 9, 0), 1, 28},
		{wash(46, 1), weather(9, 9, 0), 0, 26}, // at most all
		{wash(20, 1), weather(0, 9, 0), 0, 0},
		{wash(0, 1), weather(9, 9, 0), 0, 0},
		{wash(20, 2), weather(9, 9, 1), 25, 25}, // neither sun nor wind count in rain
		{wash(0, 1), weather(0, 0, 9), 45, 45},
		{wash(0, 9), weather(0, 0, 1), 5, 5}, // nor does the thickness
		{wash(954, 9), weather(0, 0, 9), 999, 999},
		{wash(955, 9), weather(0, 0, 9), 1000, 1000},
		{wash(956, 9), weather(0, 0, 9), 1000, 1000},
		{wash(995, 1), weather(9, 9, 1), 1000, 1000},
		{wash(1000, 1), weather(9, 9, 1), 1000, 1000},
	} {
		for shade, wet := range map[bool]int16{false: c.sun, true: c.shade} {
			got, code := impl.DryHour(c.w, c.t, shade)
			is(t, fmt.Sprint(c.w, c.t, shade), fmt.Sprint(wash(wet, c.w.Thick), 0), got, code)
		}
	}
}

// everyWeather calls use for all valid weather.
func everyWeather(use func(w impl.Weather)) {
	for n := range 1000 {
		use(weather(int8(n/100), int8(n/10%10), int8(n%10)))
	}
}

func TestEveryHour(t *testing.T) {
	everyWeather(func(hour impl.Weather) {
		for _, wet := range []int16{0, 1, 4, 5, 19, 20, 21, 46, 47, 48, 500, 954, 955, 956, 999, 1000} {
			for thick := int8(1); thick <= 9; thick++ {
				for _, shade := range []bool{false, true} {
					w := wash(wet, thick)
					got, code := impl.DryHour(w, hour, shade)
					if int64(got.Wet) != naiveHour(int64(wet), thick, hour, shade) || got.Thick != thick || code != impl.OK || !impl.ValidWash(got) {
						t.Fatalf("%v %v %v: got %v %d", w, hour, shade, got, code)
					}
				}
			}
		}
	})
}

func TestWetBehind(t *testing.T) {
	for _, c := range []struct {
		d        impl.Day
		w        impl.Wash
		from, to int64
		shade    bool
		want     int64
	}{
		{fairDay(), wash(20, 2), 0, 3, false, 5},
		{fairDay(), wash(20, 2), 0, 4, false, 0},
		{fairDay(), wash(20, 2), 0, 24, false, 0},
		{fairDay(), wash(20, 2), 0, 9, true, 2},
		{fairDay(), wash(20, 2), 14, 24, true, 0},
		{rainyAt(2), wash(20, 2), 0, 3, false, 15},
		{rainyAt(2), wash(20, 2), 2, 3, false, 25},
		{rainyAt(2), wash(20, 2), 3, 4, false, 15},
		{rainyAt(2), wash(20, 2), 0, 2, false, 10}, // the hour 2 itself does not count
		{rainyAt(0, 23), wash(7, 9), 0, 0, false, 7},
		{rainyAt(0, 23), wash(7, 9), 23, 23, true, 7},
		{rainyAt(0, 23), wash(7, 9), 24, 24, false, 7},
		{rainyAt(0, 23), wash(7, 9), 23, 24, false, 12},
		{rainyAt(0, 23), wash(7, 9), 0, 1, true, 12},
		{rainyAt(23), wash(0, 1), 0, 24, false, 5},              // it was without water, and is wet again
		{dayOf(weather(9, 9, 9)), wash(0, 1), 0, 22, true, 990}, // 45 in each hour
		{dayOf(weather(9, 9, 9)), wash(0, 1), 0, 23, true, 1000},
		{dayOf(weather(9, 9, 9)), wash(0, 1), 0, 24, true, 1000},
		{dayOf(weather(9, 9, 0)), wash(1000, 1), 0, 21, false, 13}, // 47 in each hour
		{dayOf(weather(9, 9, 0)), wash(1000, 1), 0, 22, false, 0},
	} {
		wet, code := impl.WetBehind(c.d, c.w, c.from, c.to, c.shade)
		is(t, fmt.Sprint(c.d, c.w, c.from, c.to, c.shade), fmt.Sprint(c.want, 0), wet, code)
	}
}

// TestMaxWetIsNotPassed lets it rain on what is nearly as wet as can be, before it dries.
func TestMaxWetIsNotPassed(t *testing.T) {
	d := fairDay()
	d[0].Rain = 9
	for wet, want := range map[int16]int64{950: 990, 954: 994, 955: 995, 956: 995, 1000: 995} {
		got, code := impl.WetBehind(d, wash(wet, 2), 0, 2, false)
		is(t, fmt.Sprint(wet), fmt.Sprint(want, 0), got, code)
	}
}

func TestCourseOf(t *testing.T) {
	for _, c := range []struct {
		d     impl.Day
		w     impl.Wash
		from  int64
		shade bool
		want  string
	}{
		{fairDay(), wash(20, 2), 20, false, "[15 10 5 0] 0"},
		{fairDay(), wash(20, 2), 20, true, "[18 16 14 12] 0"},
		{fairDay(), wash(12, 2), 20, false, "[7 2 0 0] 0"},
		{rainyAt(22), wash(10, 2), 19, false, "[5 0 0 5 0] 0"},
		{rainyAt(23), wash(10, 2), 23, false, "[15] 0"},
		{rainyAt(23), wash(10, 2), 24, false, "[] 0"},
		{fairDay(), wash(20, 2), 0, false, "[15 10 5 0 0 0 0 0 0 0 0 0 0 0 0 0 0 0 0 0 0 0 0 0] 0"},
		{rainyAt(0, 1, 2), wash(990, 2), 0, true, "[995 1000 1000 998 996 994 992 990 988 986 984 982 980 978 976 974 972 970 968 966 964 962 960 958] 0"},
	} {
		course, code := impl.CourseOf(c.d, c.w, c.from, c.shade)
		is(t, fmt.Sprint(c.d, c.w, c.from, c.shade), c.want, course, code)
	}
}

func TestDryAt(t *testing.T) {
	for _, c := range []struct {
		d     impl.Day
		w     impl.Wash
		from  int64
		shade bool
		want  string
	}{
		{fairDay(), wash(20, 2), 0, false, "4 0"},
		{fairDay(), wash(20, 2), 0, true, "10 0"},
		{fairDay(), wash(16, 2), 0, false, "4 0"},
		{fairDay(), wash(15, 2), 0, false, "3 0"},
		{fairDay(), wash(21, 2), 0, false, "5 0"},
		{rainyAt(2), wash(20, 2), 0, false, "6 0"},
		{rainyAt(4), wash(20, 2), 0, false, "4 0"}, // it is dry, although it becomes wet again
		{rainyAt(3), wash(20, 2), 0, false, "6 0"},
		{fairDay(), wash(20, 2), 20, false, "24 0"},
		{fairDay(), wash(20, 2), 21, false, "0 6"},
		{fairDay(), wash(20, 2), 14, true, "24 0"},
		{fairDay(), wash(20, 2), 15, true, "0 6"},
		{fairDay(), wash(1, 2), 23, false, "24 0"},
		{fairDay(), wash(1, 2), 24, false, "0 6"},
		{fairDay(), wash(0, 2), 0, false, "0 0"}, // without water from the beginning
		{fairDay(), wash(0, 2), 24, false, "24 0"},
		{fairDay(), wash(0, 9), 23, true, "23 0"},
		{dayOf(weather(9, 9, 9)), wash(0, 1), 7, false, "7 0"}, // the rain comes behind the beginning
		{dayOf(weather(9, 9, 1)), wash(1, 1), 0, false, "0 6"}, // it rains all day
		{dayOf(weather(0, 0, 0)), wash(1, 3), 0, false, "0 6"}, // it loses nothing
		{dayOf(weather(9, 9, 0)), wash(1000, 1), 2, false, "24 0"},
		{dayOf(weather(9, 9, 0)), wash(1000, 1), 3, false, "0 6"}, // 47 in each of 21 hours are 987
		{dayOf(weather(9, 9, 0)), wash(987, 1), 3, false, "24 0"},
		{dayOf(weather(9, 9, 0)), wash(988, 1), 3, false, "0 6"},
	} {
		hour, code := impl.DryAt(c.d, c.w, c.from, c.shade)
		is(t, fmt.Sprint(c.d, c.w, c.from, c.shade), c.want, hour, code)
	}
}

func TestTakeInAt(t *testing.T) {
	for _, c := range []struct {
		d    impl.Day
		w    impl.Wash
		from int64
		want string
	}{
		{fairDay(), wash(20, 2), 0, "4 0 0"}, // the first hour at which it is dry
		{rainyAt(2), wash(20, 2), 0, "6 0 0"},
		{rainyAt(4), wash(20, 2), 0, "4 0 0"},
		{rainyAt(22), wash(20, 2), 20, "22 10 0"}, // before the rain; as much as at 24, behind it and an hour more
		{rainyAt(21), wash(20, 2), 20, "24 10 0"},
		{rainyAt(23), wash(20, 2), 23, "23 20 0"},
		{fairDay(), wash(20, 2), 23, "24 15 0"},
		{fairDay(), wash(20, 2), 24, "24 20 0"},
		{fairDay(), wash(0, 2), 24, "24 0 0"},
		{fairDay(), wash(0, 2), 5, "5 0 0"},
		{dayOf(weather(0, 0, 0)), wash(1000, 9), 3, "3 1000 0"}, // it never has less
		{dayOf(weather(9, 9, 9)), wash(1000, 1), 3, "3 1000 0"}, // it cannot have more
		{dayOf(weather(9, 9, 1)), wash(20, 1), 11, "11 20 0"},
	} {
		hour, least, code := impl.TakeInAt(c.d, c.w, c.from, false)
		is(t, fmt.Sprint(c.d, c.w, c.from), c.want, hour, least, code)
	}
	hour, least, code := impl.TakeInAt(fairDay(), wash(20, 2), 20, true)
	is(t, "in the shade", "24 12 0", hour, least, code)
}

func TestFewestHoursAndLatestStart(t *testing.T) {
	noon := dayOf(weather(0, 0, 0)) // a thing of the thickness 2 loses 1 each hour, and 7 in the hours 10 to 13
	for h := 10; h < 14; h++ {
		noon[h].Sun = 4
	}
	twice := dayOf(weather(0, 0, 1)) // 10 in the hours 5, and 8 to 10, and rain in the others
	for _, h := range []int{5, 8, 9, 10} {
		twice[h] = weather(4, 3, 0)
	}
	for _, c := range []struct {
		d             impl.Day
		w             impl.Wash
		shade         bool
		fewest, start string
	}{
		{fairDay(), wash(20, 2), false, "0 4 0", "20 0"},
		{fairDay(), wash(20, 2), true, "0 10 0", "14 0"},
		{rainyAt(2), wash(20, 2), false, "3 4 0", "20 0"},
		{rainyAt(23), wash(20, 2), false, "0 4 0", "19 0"}, // dry at 23, and wet again at 24
		{rainyAt(22), wash(5, 2), false, "0 1 0", "23 0"},
		{rainyAt(23), wash(5, 2), false, "0 1 0", "22 0"},
		{noon, wash(14, 2), false, "10 2 0", "13 0"}, // from 13 on it loses 7, and 1 in each of 10 hours
		{noon, wash(15, 2), false, "9 3 0", "13 0"},  // 3 hours from 10 or 11 on as well
		{noon, wash(17, 2), false, "10 3 0", "13 0"},
		{noon, wash(18, 2), false, "10 3 0", "12 0"},
		{noon, wash(28, 2), false, "10 4 0", "11 0"},
		{noon, wash(60, 2), false, "0 0 6", "0 6"}, // all day it loses 48
		{noon, wash(24, 2), true, "0 24 0", "0 0"}, // 24 hours are just enough
		{noon, wash(25, 2), true, "0 0 6", "0 6"},
		{twice, wash(10, 2), false, "5 1 0", "10 0"}, // the first one of several
		{twice, wash(11, 2), false, "8 2 0", "9 0"},
		{twice, wash(30, 2), false, "8 3 0", "8 0"},
		{twice, wash(31, 2), false, "0 0 6", "0 6"},
		{fairDay(), wash(0, 2), false, "0 0 0", "24 0"},
		{dayOf(weather(9, 9, 9)), wash(0, 2), true, "0 0 0", "24 0"},
		{dayOf(weather(9, 9, 1)), wash(1, 1), false, "0 0 6", "0 6"},
		{dayOf(weather(0, 0, 0)), wash(1, 3), false, "0 0 6", "0 6"},
	} {
		from, hours, code := impl.FewestHours(c.d, c.w, c.shade)
		is(t, fmt.Sprint("fewest hours ", c.d, c.w, c.shade), c.fewest, from, hours, code)
		from, code = impl.LatestStart(c.d, c.w, c.shade)
		is(t, fmt.Sprint("latest start ", c.d, c.w, c.shade), c.start, from, code)
	}
}

// TestOneThing holds what is told of a thing against going through its hours.
func TestOneThing(t *testing.T) {
	d := dice(40)
	dried, again := 0, 0
	for range 3000 {
		day, w, shade := d.day(), d.wash(), d.shade()
		from := int64(d.below(25))
		to := from + int64(d.below(25-int(from)))
		wet, code := impl.WetBehind(day, w, from, to, shade)
		is(t, fmt.Sprint("wet ", day, w, from, to, shade), fmt.Sprint(naiveBehind(day, w, from, to, shade), 0), wet, code)
		var course []int64
		hour, least := from, int64(w.Wet)
		for h := from; h < 24; h++ {
			left := naiveBehind(day, w, from, h+1, shade)
			if course = append(course, left); left < least {
				hour, least = h+1, left
			}
		}
		got, code := impl.CourseOf(day, w, from, shade)
		is(t, fmt.Sprint("course ", day, w, from, shade), fmt.Sprint(course, 0), got, code)
		at, wet, code := impl.TakeInAt(day, w, from, shade)
		is(t, fmt.Sprint("take in ", day, w, from, shade), fmt.Sprint(hour, least, 0), at, wet, code)
		want := "0 6"
		if dry := naiveDryAlone(day, w, from, shade); dry >= 0 {
			want = fmt.Sprint(dry, 0)
			dried++
			if naiveBehind(day, w, from, 24, shade) > 0 {
				again++
			}
		}
		at, code = impl.DryAt(day, w, from, shade)
		is(t, fmt.Sprint("dry ", day, w, from, shade), want, at, code)
	}
	if dried < 800 || dried > 2200 || again < 200 { // of 3000
		t.Errorf("%d become dry, and %d wet again: the things do not suit the days", dried, again)
	}
}

func TestStarts(t *testing.T) {
	d := dice(41)
	none := 0
	for range 1500 {
		day, w, shade := d.day(), d.wash(), d.shade()
		fewest, start := "0 0 6", "0 6"
		hours := int64(25)
		for from := int64(0); from <= 24; from++ {
			dry := naiveDryAlone(day, w, from, shade)
			if dry < 0 {
				continue
			}
			start = fmt.Sprint(from, 0)
			if dry-from < hours {
				hours = dry - from
				fewest = fmt.Sprint(from, hours, 0)
			}
		}
		if hours > 24 {
			none++
		}
		from, few, code := impl.FewestHours(day, w, shade)
		is(t, fmt.Sprint("fewest hours ", day, w, shade), fewest, from, few, code)
		from, code = impl.LatestStart(day, w, shade)
		is(t, fmt.Sprint("latest start ", day, w, shade), start, from, code)
	}
	if none < 200 || none > 1200 { // of 1500
		t.Errorf("%d never become dry: the things do not suit the days", none)
	}
}

func TestWithoutRainNothingBecomesWetter(t *testing.T) {
	d := dice(42)
	for range 1000 {
		day, w, shade := d.dryDay(), d.wash(), d.shade()
		course, code := impl.CourseOf(day, w, 0, shade)
		before := int64(w.Wet)
		for h, wet := range course {
			if wet > before || wet < 0 || code != impl.OK {
				t.Fatalf("%v %v %v: %d behind %d in the hour %d", day, w, shade, wet, before, h)
			}
			before = wet
		}
		behind, _ := impl.WetBehind(day, w, 5, 12, shade)
		later, _ := impl.WetBehind(day, w, 5, 13, shade)
		if behind > int64(w.Wet) || later > behind {
			t.Fatalf("%v %v %v: %d, and %d an hour later", day, w, shade, behind, later)
		}
		if left, _ := impl.HangInOrder(day, []impl.Wash{w}, []int64{0}, 3); left[0] > int64(w.Wet) {
			t.Fatalf("%v %v: %d left", day, w, left)
		}
	}
	everyWeather(func(hour impl.Weather) {
		w := wash(500, int8(1+hour.Sun%9))
		for _, shade := range []bool{false, true} {
			if got, _ := impl.DryHour(w, hour, shade); (got.Wet > w.Wet) != (hour.Rain > 0) {
				t.Fatalf("%v %v %v: %v", w, hour, shade, got)
			}
		}
	})
}

func TestTheSunDriesNoMoreSlowly(t *testing.T) {
	d := dice(43)
	faster := 0
	for range 1000 {
		day, w := d.day(), d.wash()
		from := int64(d.below(24))
		sun, _ := impl.CourseOf(day, w, from, false)
		shade, _ := impl.CourseOf(day, w, from, true)
		for k := range sun {
			if sun[k] > shade[k] {
				t.Fatalf("%v %v from %d on: %v in the sun, %v in the shade", day, w, from, sun, shade)
			}
		}
		if !slices.Equal(sun, shade) {
			faster++
		}
		dry, code := impl.DryAt(day, w, from, true)
		early, earlyCode := impl.DryAt(day, w, from, false)
		if code == impl.OK && (earlyCode != impl.OK || early > dry) {
			t.Fatalf("%v %v from %d on: dry at %d %d in the sun, at %d in the shade", day, w, from, early, earlyCode, dry)
		}
	}
	if faster < 200 {
		t.Errorf("only %d differ in the sun", faster)
	}
}

func TestWettestFor(t *testing.T) {
	wetFirst := dayOf(weather(9, 9, 0)) // 90 in the hours 0 and 1, and then 47 less in each of 22 hours
	wetFirst[0].Rain, wetFirst[1].Rain = 9, 9
	drenched := dayOf(weather(9, 9, 0)) // 45 more in each of two hours, and 47 less in two
	drenched[0].Rain, drenched[1].Rain = 9, 9
	for _, c := range []struct {
		d               impl.Day
		thick, from, to int64
		shade           bool
		want            string
	}{
		{fairDay(), 2, 0, 3, false, "15 0"},
		{fairDay(), 2, 0, 3, true, "6 0"},
		{fairDay(), 1, 0, 3, false, "30 0"},
		{fairDay(), 3, 0, 3, false, "9 0"},
		{fairDay(), 9, 0, 24, false, "24 0"},
		{fairDay(), 9, 0, 24, true, "0 0"},
		{rainyAt(2), 2, 0, 4, false, "10 0"},
		{rainyAt(2), 2, 0, 3, false, "0 6"}, // wet even with 0
		{rainyAt(2), 2, 2, 4, false, "0 0"},
		{rainyAt(2), 2, 2, 4, true, "0 6"},
		{rainyAt(2), 2, 1, 5, false, "10 0"}, // 10, 5, 10, 5 and 0
		{rainyAt(2), 2, 2, 2, false, "0 0"},  // no hours: it has to be without water
		{fairDay(), 2, 0, 0, false, "0 0"},
		{fairDay(), 2, 24, 24, false, "0 0"},
		{fairDay(), 2, 23, 24, false, "5 0"},
		{rainyAt(23), 2, 23, 24, false, "0 6"},
		{dayOf(weather(9, 9, 0)), 1, 0, 21, false, "987 0"},
		{dayOf(weather(9, 9, 0)), 1, 0, 22, false, "1000 0"},
		{dayOf(weather(9, 9, 0)), 1, 0, 24, false, "1000 0"},
		{wetFirst, 1, 0, 24, false, "1000 0"}, // what has MaxWet gets no more: 1034 are lost, and only 1000 there
		{wetFirst, 1, 0, 23, false, "897 0"},  // 21 hours, 987, less 90
		{drenched, 1, 0, 4, false, "4 0"},
		{drenched, 1, 0, 3, false, "0 6"},
		{dayOf(weather(9, 9, 9)), 1, 0, 24, false, "0 6"},
		{dayOf(weather(0, 0, 0)), 3, 0, 24, false, "0 0"},
	} {
		wet, code := impl.WettestFor(c.d, c.thick, c.from, c.to, c.shade)
		is(t, fmt.Sprint(c.d, c.thick, c.from, c.to, c.shade), c.want, wet, code)
	}
}

func TestNothingWetterBecomesDry(t *testing.T) {
	d := dice(44)
	none := 0
	for range 400 {
		day, shade, thick := d.day(), d.shade(), int64(1+d.below(9))
		from := int64(d.below(25))
		to := from + int64(d.below(25-int(from)))
		want := "0 6"
		for wet := int16(1000); wet >= 0; wet-- {
			if naiveBehind(day, wash(wet, int8(thick)), from, to, shade) == 0 {
				want = fmt.Sprint(wet, 0)
				break
			}
		}
		if want == "0 6" {
			none++
		}
		wet, code := impl.WettestFor(day, thick, from, to, shade)
		is(t, fmt.Sprint(day, thick, from, to, shade), want, wet, code)
	}
	if none < 50 || none > 250 { // of 400
		t.Errorf("%d cannot be dry: the days do not suit", none)
	}
}
