package tests

import (
	"fmt"
	"slices"
	"testing"

	"loop.example/g01378/impl"
)

func TestDayOnce(t *testing.T) {
	for _, c := range []struct {
		h     impl.House
		needs []int64
		want  string
	}{
		{house(10, 2, 0, "5c8"), []int64{2}, "10 2 1 / 3c8 2u7 [0] 0"},
		{house(10, 2, 1, "3c8 2u7"), []int64{2}, "10 2 2 / 1c8 2c7 2u7 [0] 0"}, // what becomes dirty is washed on this day, but not used
		{house(10, 2, 1, "2u7"), []int64{1}, "10 2 2 / 2c7 [1] 0"},
		{house(10, 2, 2, "3c8 2u7"), []int64{2}, "10 2 3 / 1c8 2u7 2d7 [0] 0"},
		{house(10, 2, 0, "2d4"), []int64{0}, "10 2 1 / 2d4 [0] 0"},
		{house(10, 1, 0, "2d4"), []int64{0}, "10 1 1 / 2c4 [0] 0"}, // today plus 1
		{house(10, 7, 0, "2d4"), []int64{0}, "10 7 1 / 2d4 [0] 0"},
		{house(10, 7, 5, "2d4"), []int64{0}, "10 7 6 / 2d4 [0] 0"},
		{house(10, 7, 6, "2d4"), []int64{0}, "10 7 7 / 2c4 [0] 0"},
		{house(10, 7, 7, "2d4"), []int64{0}, "10 7 8 / 2d4 [0] 0"},
		{house(10, 7, 55, "2d4"), []int64{0}, "10 7 56 / 2c4 [0] 0"},
		{house(10, 7, 59, "2d4"), []int64{0}, "10 7 60 / 2d4 [0] 0"},
		{house(10, 6, 59, "2d4"), []int64{0}, "10 6 60 / 2c4 [0] 0"},
		{house(10, 1, 59, "2d4"), []int64{0}, "10 1 60 / 2c4 [0] 0"},
		{house(0, 1, 0, "2d4 1u8"), []int64{0}, "0 1 1 / 1d8 2d4 [0] 0"}, // no tub
		{house(3, 1, 0, "2u4", "2d8", "1u2"), []int64{0, 0, 0}, "3 1 1 / 2c4 / 1c8 1d8 / 1d2 [0 0 0] 0"},
		{house(10, 3, 0, "1c8", "", "2c1", "3c4"), []int64{2, 1, 2, 500}, "10 3 1 / 1u7 /  / 2r / 3u3 [1 1 0 497] 0"},
		{house(10, 3, 0, "500c8", "500c1"), []int64{500, 500}, "10 3 1 / 500u7 / 500r [0 0] 0"},
	} {
		got, shorts, code := impl.DayOnce(c.h, c.needs)
		is(t, fmt.Sprint(tellHouse(c.h), c.needs), c.want, tellHouse(got), shorts, code)
	}
}

func TestDayAll(t *testing.T) {
	one := house(10, 2, 3, "5c8", "2u1 3r")
	for _, c := range []struct {
		h    impl.House
		days [][]int64
		want string
	}{
		{one, nil, "10 2 3 / 5c8 / 2u1 3r [] 0"}, // no days
		{house(10, 2, 60, "5c8"), nil, "10 2 60 / 5c8 [] 0"},
		{one, [][]int64{{1, 0}}, "10 2 4 / 4c8 1u7 / 2c1 3r [[0 0]] 0"},
		{one, [][]int64{{1, 0}, {0, 3}}, "10 2 5 / 4c8 1d7 / 5r [[0 0] [0 1]] 0"},
		{house(10, 2, 0, "5c8"), [][]int64{{3}, {3}, {3}}, "10 2 3 / 3u6 2d7 [[0] [1] [0]] 0"},
		{house(10, 2, 0, "5c8"), [][]int64{{5}, {1}, {1}, {1}}, "10 2 4 / 3c7 1c6 1u6 [[0] [1] [0] [0]] 0"},
		{house(2, 1, 58, "5c8"), [][]int64{{5}, {1}}, "2 1 60 / 2c7 3d7 [[0] [1]] 0"},
	} {
		got, shorts, code := impl.DayAll(c.h, c.days)
		is(t, fmt.Sprint(tellHouse(c.h), c.days), c.want, tellHouse(got), shorts, code)
	}
}

// TestSixtyDays uses a house on as many days as can be, on all of which all happens.
func TestSixtyDays(t *testing.T) {
	h, shorts, code := impl.DayAll(house(3, 3, 0, "9c4", "4c8"), repeatDay(60, 1, 1))
	want, wantShorts, _ := naiveDays(house(3, 3, 0, "9c4", "4c8"), repeatDay(60, 1, 1))
	checkHome(t, "sixty", h, want, fmt.Sprint(shorts, code), fmt.Sprint(wantShorts, 0))
	is(t, "sixty", "60 60", h.Today, len(shorts))
	if h.Kinds[0].Rags == 0 && h.Kinds[1].Rags == 0 || shorts[59][1] == 0 {
		t.Errorf("nothing is worn, or no kind is short: %s %v", tellHouse(h), shorts)
	}
	h, shorts, code = impl.DayAll(house(3, 3, 0, "9c4", "4c8"), repeatDay(61, 1, 1))
	is(t, "one more", "0 0 0 [] 3", tellHouse(h), shorts, code)
}

func TestOneDayOfAllHouses(t *testing.T) {
	d := dice(83)
	for range 3000 {
		h := d.house()
		needs := d.needs(len(h.Kinds))
		want, wantShorts, wantCode := naiveDays(h, [][]int64{needs})
		got, shorts, code := impl.DayOnce(h, needs)
		if wantCode == impl.OK {
			checkHome(t, fmt.Sprint(tellHouse(h), needs), got, want, fmt.Sprint(shorts, code), fmt.Sprint(wantShorts[0], wantCode))
			checkSums(t, h, got)
		} else {
			checkHome(t, fmt.Sprint(tellHouse(h), needs), got, impl.House{}, fmt.Sprint(shorts, code), fmt.Sprint([]int64{}, wantCode))
		}
	}
}

// spoiltDays makes some of the days impossible.
func (d *dice) spoiltDays(days [][]int64) {
	for i, needs := range days {
		switch d.below(40) {
		case 0:
			days[i] = append(needs, 1)
		case 1:
			days[i] = needs[1:]
		case 2:
			days[i] = nil
		case 3:
			needs[d.below(len(needs))] = []int64{-1, 501, 65536, -1 << 63}[d.below(4)]
		}
	}
}

// TestDaysOfAllHouses also tells that no piece is lost on any day (promise 12), which day is the first one that is short, and
// how many pieces have become rags.
func TestDaysOfAllHouses(t *testing.T) {
	d := dice(84)
	short, calm := 0, 0
	for range 1500 {
		h := d.house()
		days := d.days(len(h.Kinds), []int{0, 1, 2, 5, 10, 20, 60, 61}[d.below(8)])
		if d.below(2) == 0 {
			d.spoiltDays(days)
		}
		if d.below(4) == 0 { // never short
			days = repeatDay(len(days), make([]int64, len(h.Kinds))...)
		}
		name := fmt.Sprint(tellHouse(h), days)
		want, wantShorts, wantCode := naiveDays(h, days)
		got, shorts, code := impl.DayAll(h, days)
		checkHome(t, name, got, want, fmt.Sprint(shorts, code), fmt.Sprint(wantShorts, wantCode))
		day, kind, shortCode := impl.FirstShort(h, days)
		worn, wornCode := impl.WornOut(h, days)
		if wantCode != impl.OK {
			checkHome(t, name, impl.House{}, impl.House{}, fmt.Sprint(day, kind, shortCode, worn, wornCode), fmt.Sprint(0, 0, wantCode, 0, wantCode))
			continue
		}
		checkSums(t, h, got)
		wantDay, wantKind, found := naiveShort(wantShorts)
		wantShort := fmt.Sprint(wantDay, wantKind, 0)
		if found {
			short++
		} else {
			calm, wantShort = calm+1, "0 0 6"
		}
		checkHome(t, name, got, want, fmt.Sprint(day, kind, shortCode), wantShort, fmt.Sprint(worn, wornCode), fmt.Sprint(ragsOf(want)-ragsOf(h), 0))
	}
	if short < 200 || calm < 200 {
		t.Errorf("%d are short, and %d are not", short, calm)
	}
}

func ragsOf(h impl.House) int64 {
	rags := int64(0)
	for _, k := range h.Kinds {
		rags += int64(k.Rags)
	}
	return rags
}

// TestDaysOneByOne tells that several days are as one behind the other.
func TestDaysOneByOne(t *testing.T) {
	d := dice(85)
	for range 300 {
		h := d.house()
		days := d.days(len(h.Kinds), d.below(61-int(h.Today)))
		all, allShorts, code := impl.DayAll(h, days)
		is(t, "code", "0", code)
		for i, needs := range days {
			behind, shorts, code := impl.DayOnce(h, needs)
			checkSums(t, h, behind)
			is(t, "day", fmt.Sprint(allShorts[i], 0), shorts, code)
			h = behind
		}
		checkHome(t, fmt.Sprint(days), all, h)
	}
}

func TestErrorOfTheFirstDay(t *testing.T) {
	h := house(10, 2, 58, "5c8", "5c8")
	for _, c := range []struct {
		days [][]int64
		want int64
	}{
		{[][]int64{{1, 1}, {1, 1}}, impl.OK},
		{[][]int64{{1, 1}, {1, 1}, {1, 1}}, impl.ErrState}, // today is MaxDays in the midst
		{[][]int64{{1, 1}, {1, 1}, {1, 1}, {1}}, impl.ErrState},
		{[][]int64{{1, 1}, {1, 1}, {1}, {1, 1}}, impl.ErrRange}, // of one day the needs are looked at first
		{[][]int64{{1, 1}, {1, 1}, {1, 501}}, impl.ErrRange},
		{[][]int64{{1, 1}, {1, -1}, {1, 1}}, impl.ErrRange},
		{[][]int64{{1, 1, 1}, {1, 1}, {1, 1}}, impl.ErrRange},
		{[][]int64{{1, 1}, {1, 1}, {}}, impl.ErrRange},
		{[][]int64{{1, 1}, {500, 500}}, impl.OK},
		{append(repeatDay(60, 1, 1), []int64{1}), impl.ErrLimit},
		{repeatDay(61, 501, 1), impl.ErrLimit},
		{repeatDay(60, 501, 1), impl.ErrRange},
		{repeatDay(60, 500, 1), impl.ErrState},
	} {
		behind, shorts, code := impl.DayAll(h, c.days)
		is(t, fmt.Sprint("all ", c.days), fmt.Sprint(c.want), code)
		if code != impl.OK && (!sameHome(behind, impl.House{}) || len(shorts) != 0) {
			t.Errorf("%v: got %s %v beside an error", c.days, tellHouse(behind), shorts)
		}
		day, kind, code := impl.FirstShort(h, c.days)
		if c.want != impl.OK { // also if a kind is short ahead of the day with the error
			is(t, fmt.Sprint("short ", c.days), fmt.Sprint(0, 0, c.want), day, kind, code)
		}
		worn, code := impl.WornOut(h, c.days)
		is(t, fmt.Sprint("worn ", c.days), fmt.Sprint(0, c.want), worn, code)
	}
}

func TestFirstShort(t *testing.T) {
	for _, c := range []struct {
		h    impl.House
		days [][]int64
		want string
	}{
		{house(10, 2, 0, "5c8"), [][]int64{{3}, {3}}, "1 0 0"},
		{house(10, 2, 0, "5c8"), [][]int64{{6}, {1}}, "0 0 0"},
		{house(10, 2, 0, "5c8"), [][]int64{{5}}, "0 0 6"},
		{house(10, 2, 0, ""), nil, "0 0 6"},
		{house(10, 2, 60, ""), nil, "0 0 6"},
		{house(10, 2, 0, ""), repeatDay(60, 0), "0 0 6"},
		{house(10, 2, 0, ""), [][]int64{59: {1}}, "0 0 2"}, // days without needs
		{house(10, 2, 0, ""), append(repeatDay(59, 0), []int64{1}), "59 0 0"},
		{house(10, 2, 0, "5c8", "5c8", "1c8", "2c8"), [][]int64{{1, 1, 2, 3}}, "0 2 0"}, // several kinds are short
		{house(10, 2, 0, "5c8", "5c8", "1c8", "2c8"), [][]int64{{1, 1, 1, 3}}, "0 3 0"},
		{house(0, 2, 0, "5c8", "1c8", "1c8"), [][]int64{{1, 1, 1}, {1, 1, 1}, {9, 9, 9}}, "1 1 0"}, // a later day has an earlier kind
		{house(0, 2, 0, "5c8", "1c8", "1c8"), [][]int64{{1, 1, 2}, {9, 9, 9}}, "0 2 0"},
		{house(0, 2, 0, "1c8", "1c8"), [][]int64{{1, 0}, {0, 1}, {0, 0}, {0, 1}, {1, 0}}, "3 1 0"},
	} {
		day, kind, code := impl.FirstShort(c.h, c.days)
		is(t, fmt.Sprint(tellHouse(c.h), c.days), c.want, day, kind, code)
	}
}

func TestWornOut(t *testing.T) {
	for _, c := range []struct {
		h    impl.House
		days [][]int64
		want string
	}{
		{house(10, 2, 0, "5c1"), [][]int64{{3}}, "3 0"},
		{house(10, 2, 0, "5c1 7r"), [][]int64{{3}}, "3 0"}, // rags that were there before
		{house(10, 2, 0, "5c1 7r", "2c1 1r"), [][]int64{{3, 1}, {3, 0}}, "6 0"},
		{house(10, 2, 0, "5c2 7r", "2c3"), [][]int64{{3, 1}}, "0 0"},
		{house(10, 2, 0, "7r"), [][]int64{{3}}, "0 0"},
		{house(10, 2, 0, "5c1 7r"), nil, "0 0"},
		{house(10, 1, 0, "2c8"), repeatDay(15, 1), "1 0"}, // eight uses each, in turn
		{house(10, 1, 0, "2c8"), repeatDay(16, 1), "2 0"},
		{house(10, 1, 0, "2c8"), repeatDay(14, 1), "0 0"},
		{house(10, 1, 0, "2c8"), repeatDay(60, 1), "2 0"},
		{house(10, 1, 0, "500c1", "500c1", "500c1", "500c1"), repeatDay(1, 500, 500, 500, 500), "2000 0"},
	} {
		worn, code := impl.WornOut(c.h, c.days)
		is(t, fmt.Sprint(tellHouse(c.h), c.days), c.want, worn, code)
	}
}

func TestLeastStock(t *testing.T) {
	for _, c := range []struct {
		kind, tub, every int64
		days             [][]int64
		want             string
	}{
		{0, 10, 2, repeatDay(4, 2), "6 0"},
		{0, 10, 2, repeatDay(1, 2), "2 0"},
		{0, 10, 2, nil, "0 0"},
		{3, 0, 7, [][]int64{}, "0 0"},
		{0, 0, 7, repeatDay(60, 0), "0 0"},
		{0, 10, 2, repeatDay(1, 500), "500 0"},
		{0, 10, 2, [][]int64{{250}, {250}}, "500 0"},
		{0, 1000, 1, [][]int64{{250}, {250}, {250}}, "500 0"}, // washed on the second day for the third one
		{0, 249, 1, [][]int64{{250}, {250}, {250}}, "0 6"},    // one is not washed
		{0, 10, 2, [][]int64{{250}, {251}}, "0 6"},
		{0, 1000, 1, [][]int64{{500}, {1}}, "0 6"},
		{0, 0, 1, repeatDay(60, 1), "60 0"}, // nothing is washed
		{0, 0, 1, repeatDay(50, 10), "500 0"},
		{0, 0, 1, repeatDay(51, 10), "0 6"},
		{0, 1000, 1, repeatDay(16, 1), "2 0"}, // by then each one has been used eight times
		{0, 1000, 1, repeatDay(17, 1), "3 0"},
		{0, 1000, 1, repeatDay(60, 1), "8 0"},
		{1, 10, 2, [][]int64{{9, 2, 9}, {9, 2, 9}, {9, 2, 9}, {9, 2, 9}}, "6 0"},
		{1, 10, 2, [][]int64{{-1, 2}, {501, 2, -1, 1 << 40}, {-1 << 63, 2, 7, 7, 7, 7, 7}, {0, 2}}, "6 0"}, // other kinds are not looked at
		{3, 10, 2, [][]int64{{501, 501, 501, 4}, {-1, -1, -1, 1, -1}}, "5 0"},
		{2, 10, 2, [][]int64{{7, 7, 0}, {7, 7, 0, 7}}, "0 0"},
	} {
		least, code := impl.LeastStock(c.kind, c.tub, c.every, c.days)
		is(t, fmt.Sprint(c.kind, c.tub, c.every, c.days), c.want, least, code)
	}
}

// TestLeastStockIsLeast tells that a house with the least stock is never short, and with any fewer pieces it is (promise 13).
func TestLeastStockIsLeast(t *testing.T) {
	d := dice(86)
	for range 250 {
		tub, every := []int64{0, 1, 2, 5, 10, 1000}[d.below(6)], int64(1+d.below(7))
		kind, high := d.below(4), 1+d.below(6)
		days := make([][]int64, d.below(61))
		alone := make([][]int64, len(days))
		for i := range days {
			alone[i] = []int64{int64(d.below(high))}
			days[i] = append(d.needs(kind), alone[i]...)
			days[i] = append(days[i], d.needs(d.below(3))...)
		}
		least, code := impl.LeastStock(int64(kind), tub, every, days)
		if code != impl.OK {
			t.Fatalf("%d %d %v: %d", tub, every, alone, code)
		}
		_, shorts, naiveCode := naiveDays(newNaive(tub, every, least), alone)
		if _, _, found := naiveShort(shorts); found || naiveCode != impl.OK {
			t.Fatalf("%d %d %v: short with %d", tub, every, alone, least)
		}
		for fewer := range least {
			_, shorts, _ := naiveDays(newNaive(tub, every, fewer), alone)
			if _, _, found := naiveShort(shorts); !found {
				t.Fatalf("%d %d %v: got %d, but not short with %d", tub, every, alone, least, fewer)
			}
		}
		checkLeast(t, tub, every, least, alone)
	}
}

// checkLeast tells the same by the program's own functions.
func checkLeast(t *testing.T, tub, every, least int64, alone [][]int64) {
	t.Helper()
	enough, code := impl.NewHouse([]int64{least}, tub, every)
	is(t, "new", "0", code)
	day, kind, code := impl.FirstShort(enough, alone)
	is(t, "enough", "0 0 6", day, kind, code)
	if least == 0 {
		return
	}
	fewer, code := impl.NewHouse([]int64{least - 1}, tub, every)
	is(t, "new", "0", code)
	_, _, code = impl.FirstShort(fewer, alone)
	is(t, fmt.Sprint(least-1, tub, every, alone), "0", code)
}

func TestLastsFor(t *testing.T) {
	for _, c := range []struct {
		h     impl.House
		needs []int64
		want  string
	}{
		{house(10, 2, 0, "5c8"), []int64{3}, "1 0"},
		{house(10, 2, 0, "5c8"), []int64{6}, "0 0"}, // on the first day
		{house(10, 2, 0, ""), []int64{1}, "0 0"},
		{house(10, 2, 0, "5u8 5d8 5r"), []int64{1}, "0 0"},
		{house(10, 2, 0, "5c8"), []int64{0}, "60 0"},
		{house(0, 7, 0, ""), []int64{0}, "60 0"},
		{house(0, 7, 0, "60c8"), []int64{1}, "60 0"},
		{house(0, 7, 0, "59c8"), []int64{1}, "59 0"},
		{house(0, 7, 0, "61c1"), []int64{1}, "60 0"},
		{house(0, 7, 0, "5c8", "3c8", "9c8"), []int64{1, 1, 1}, "3 0"}, // of several kinds
		{house(0, 7, 0, "5c8", "9c8", "4c8"), []int64{1, 1, 2}, "2 0"},
		{house(10, 1, 0, "2c8"), []int64{1}, "16 0"},
		{house(10, 1, 0, "3c8"), []int64{1}, "24 0"},
		{house(10, 1, 0, "8c8"), []int64{1}, "60 0"},
		{house(10, 1, 0, "7c8"), []int64{1}, "56 0"},
		{house(10, 3, 0, "1c8 4d8"), []int64{1}, "1 0"}, // the washing day is the third one
		{house(10, 3, 0, "2c8 4d8"), []int64{1}, "2 0"},
		{house(10, 3, 0, "3c8 4d8"), []int64{1}, "56 0"}, // seven pieces, eight uses each,
	} {
		for today := int16(0); today <= 60; today++ { // today plays no part
			c.h.Today = today
			got, code := impl.LastsFor(c.h, c.needs)
			is(t, fmt.Sprint(tellHouse(c.h), c.needs), c.want, got, code)
		}
	}
}

func TestLastsForOfAllHouses(t *testing.T) {
	d := dice(87)
	seen := map[string]int{}
	for range 1500 {
		h := d.house()
		needs := make([]int64, len(h.Kinds))
		for i := range needs {
			needs[i] = int64(d.below(1 + d.below(6)))
		}
		early := h
		early.Today = 0
		_, shorts, _ := naiveDays(early, slices.Repeat([][]int64{needs}, 60))
		want, _, found := naiveShort(shorts)
		switch {
		case !found:
			want = 60
			seen["all"]++
		case want == 0:
			seen["none"]++
		default:
			seen["some"]++
		}
		got, code := impl.LastsFor(h, needs)
		if got != want || code != impl.OK {
			t.Fatalf("%s %v: got %d %d, want %d", tellHouse(h), needs, got, code, want)
		}
	}
	for _, how := range []string{"all", "none", "some"} {
		if seen[how] < 100 {
			t.Errorf("%s only %d times", how, seen[how])
		}
	}
}
