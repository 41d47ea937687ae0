package tests

import (
	"fmt"
	"math"
	"slices"
	"testing"

	"loop.example/g01378/impl"
)

// read returns the cloths with a text, which has to be right.
func read(t *testing.T, text string) []impl.Cloth {
	t.Helper()
	list, code := impl.ReadCloths(text)
	if code != impl.OK {
		t.Fatalf("%q is no text of cloths: %d", text, code)
	}
	return list
}

func TestValidCloths(t *testing.T) {
	if !impl.ValidCloths(nil) || !impl.ValidCloths(threeCloths()) || !impl.ValidCloths([]impl.Cloth{cloth(4, 1), cloth(200, 500), cloth(4, 500), cloth(200, 1)}) {
		t.Error("cloths are told not valid")
	}
	if !impl.ValidCloths(manyCloths(cloth(4, 1), 101)) {
		t.Error("a list of cloths that is too long for other functions is valid")
	}
	for _, c := range wrongCloths() {
		for at := range 4 {
			if list := slices.Insert(threeCloths(), at, c); impl.ValidCloths(list) {
				t.Errorf("valid: %v", list)
			}
		}
	}
}

func TestValidLine(t *testing.T) {
	for _, l := range []impl.Line{line(4, 1), line(2000, 2000), line(4, 2000), line(2000, 1), line(100, 140)} {
		if !impl.ValidLine(l) {
			t.Errorf("not valid: %v", l)
		}
	}
	for _, l := range wrongLines() {
		if impl.ValidLine(l) {
			t.Errorf("valid: %v", l)
		}
	}
}

func TestSharePeg(t *testing.T) {
	for _, c := range []struct {
		a, b int16
		want string
	}{
		{1, 1, "true 0"}, {60, 60, "true 0"}, {60, 61, "false 0"}, {119, 1, "true 0"}, {120, 1, "false 0"},
		{20, 100, "true 0"}, {21, 100, "false 0"}, {500, 500, "false 0"}, {500, 1, "false 0"}, {40, 60, "true 0"},
	} {
		shared, code := impl.SharePeg(cloth(4, c.a), cloth(200, c.b))
		is(t, fmt.Sprint(c.a, c.b), c.want, shared, code)
		shared, code = impl.SharePeg(cloth(4, c.b), cloth(4, c.a))
		is(t, fmt.Sprint(c.b, c.a), c.want, shared, code)
	}
}

func TestPegsAndPlaces(t *testing.T) {
	for _, c := range []struct{ text, want string }{
		{"", "0 0 []"},
		{"4/1", "2 4 [0]"},
		{"200/500", "2 200 [0]"},
		{"4/60 4/60", "3 6 [0 2]"},
		{"4/60 4/61", "4 9 [0 5]"},
		{"50/40 30/100 60/60", "6 142 [0 51 82]"},
		{"50/40 60/60 30/100", "5 139 [0 48 109]"},
		{"10/60 20/60 30/60", "4 56 [0 8 26]"}, // the one between two shares both of its pegs
		{"10/20 20/100 30/20", "4 56 [0 8 26]"},
		{"10/20 20/100 30/21", "5 59 [0 8 29]"},
		{"10/500 20/1 30/119 40/1 50/500", "8 148 [0 11 29 57 98]"},
		{"200/500 200/500 200/500 200/500 200/500 200/500 200/500", "14 1406 [0 201 402 603 804 1005 1206]"},
	} {
		list := read(t, c.text)
		pegs, code1 := impl.PegsFor(list)
		width, code2 := impl.WidthFor(list)
		places, code3 := impl.PlacesOf(list)
		is(t, c.text, c.want+" 0 0 0", pegs, width, places, code1, code2, code3)
	}
}

func TestPegsOfAHundred(t *testing.T) {
	for heavy, want := range map[int16]string{60: "101 19802 19602", 61: "200 20099 19899"} {
		list := manyCloths(cloth(200, heavy), 100)
		pegs, _ := impl.PegsFor(list)
		width, _ := impl.WidthFor(list)
		places, code := impl.PlacesOf(list)
		is(t, "a hundred", want+" 100 0", pegs, width, places[99], len(places), code)
	}
}

// TestWhatHangsHasItsPegs looks for a peg at each end of each cloth: neighbours have one in common where they overlap.
func TestWhatHangsHasItsPegs(t *testing.T) {
	d := dice(20)
	for range 3000 {
		list := d.cloths(d.below(101))
		places, code := impl.PlacesOf(list)
		if code != impl.OK || len(places) != len(list) || len(list) > 0 && places[0] != 0 {
			t.Fatalf("%v: places %v %d", list, places, code)
		}
		ends, overlaps, right := 2*len(list), 0, int64(0)
		for i, c := range list {
			if i > 0 && places[i] < right {
				overlaps++
			}
			if shared := i > 0 && int(c.Heavy)+int(list[i-1].Heavy) <= 120; i > 0 && places[i]-right != map[bool]int64{true: -2, false: 1}[shared] {
				t.Fatalf("%v: the place %d behind %d", list, places[i], right)
			}
			right = places[i] + int64(c.Wide)
		}
		pegs, code1 := impl.PegsFor(list)
		width, code2 := impl.WidthFor(list)
		is(t, "pegs and width", fmt.Sprint(ends-overlaps, right, 0, 0), pegs, width, code1, code2)
	}
}

func TestPegsAreThoseOfTheNeighbours(t *testing.T) {
	d := dice(21)
	for range 1000 {
		list := d.cloths(2 + d.below(6))
		want := int64(2)
		for i := range len(list) - 1 {
			shared, code := impl.SharePeg(list[i], list[i+1])
			if shared != (list[i].Heavy+list[i+1].Heavy <= 120) || code != impl.OK {
				t.Fatalf("%v %v: %v %d", list[i], list[i+1], shared, code)
			}
			want += map[bool]int64{true: 1, false: 2}[shared]
		}
		pegs, _ := impl.PegsFor(list)
		is(t, fmt.Sprint(list), fmt.Sprint(want), pegs)
	}
}

func TestFitsLine(t *testing.T) {
	for _, c := range []struct {
		long, most int16
		text, want string
	}{
		{4, 1, "", "true 0"}, {4, 1, "4/1", "true 0"}, {4, 1, "5/1", "false 0"}, {4, 1, "4/2", "false 0"},
		{142, 200, "50/40 30/100 60/60", "true 0"}, {141, 200, "50/40 30/100 60/60", "false 0"}, {142, 199, "50/40 30/100 60/60", "false 0"},
		{139, 200, "50/40 60/60 30/100", "true 0"}, {138, 200, "50/40 60/60 30/100", "false 0"},
		{2000, 2000, "4/500 4/500 4/500 4/500", "true 0"}, {2000, 2000, "4/500 4/500 4/500 4/500 4/1", "false 0"},
	} {
		fits, code := impl.FitsLine(line(c.long, c.most), read(t, c.text))
		is(t, fmt.Sprint(c.long, c.most, c.text), c.want, fits, code)
	}
}

func TestFitsIsByWidthAndWeight(t *testing.T) {
	d := dice(22)
	for range 3000 {
		l, list := line(int16(4+d.below(250)), int16(1+d.below(500))), d.cloths(d.below(8))
		fits, code := impl.FitsLine(l, list)
		is(t, fmt.Sprint(l, list), fmt.Sprint(naiveFits(l, list), 0), fits, code)
	}
}

func TestInOrder(t *testing.T) {
	list := threeCloths()
	for _, c := range []struct {
		order []int64
		want  string
	}{
		{[]int64{0, 1, 2}, "[{50 40} {30 100} {60 60}] 0"},
		{[]int64{0, 2, 1}, "[{50 40} {60 60} {30 100}] 0"},
		{[]int64{2, 0, 1}, "[{60 60} {50 40} {30 100}] 0"}, // not its inverse
		{[]int64{1, 2, 0}, "[{30 100} {60 60} {50 40}] 0"},
	} {
		turned, code := impl.InOrder(list, c.order)
		is(t, fmt.Sprint(c.order), c.want, turned, code)
	}
	turned, code := impl.InOrder(nil, nil)
	is(t, "no cloths", "[] 0", turned, code)
	hundred := manyCloths(cloth(4, 1), 100)
	hundred[3] = cloth(9, 9)
	var backwards []int64
	for i := range 100 {
		backwards = append(backwards, int64(99-i))
	}
	turned, code = impl.InOrder(hundred, backwards)
	is(t, "a hundred", "100 {9 9} 0", len(turned), turned[96], code)
}

func TestOrdersThatAreNone(t *testing.T) {
	for _, order := range [][]int64{
		nil, {0}, {0, 1}, {0, 1, 2, 3}, {0, 1, 2, 2}, {0, 0, 1}, {0, 1, 1}, {2, 1, 2}, {0, 1, 3}, {1, 2, 3}, {-1, 0, 1}, {0, 1, -2},
		{0, 1, math.MaxInt64}, {math.MinInt64, 1, 2}, {0, 1, 1 << 32}, {0, 1, 2 + 1<<32}, {256, 1, 2},
	} {
		turned, code := impl.InOrder(threeCloths(), order)
		is(t, fmt.Sprint(order), "[] 4", turned, code)
	}
	turned, code := impl.InOrder(nil, []int64{0})
	is(t, "an index of no cloths", "[] 4", turned, code)
}

func TestFewestPegs(t *testing.T) {
	for _, c := range []struct{ text, want string }{
		{"", "[] 0 0"},
		{"4/500", "[0] 2 0"},
		{"50/40 30/100 60/60", "[0 2 1] 5 0"},
		{"4/60 4/60 4/60", "[0 1 2] 4 0"},          // all are equal
		{"4/100 4/60 4/20", "[0 2 1] 4 0"},         // all share, in two orders
		{"4/500 4/60 4/500 4/60", "[0 1 3 2] 7 0"}, // the two light ones have to be neighbours
		{"4/500 4/400 4/300", "[0 1 2] 6 0"},       // none can share
		{"4/110 4/110 4/110 4/10 4/10 4/10 4/10", "[0 3 1 4 2 5 6] 8 0"},
		{"4/110 4/110 4/110 4/110 4/10 4/10 4/10", "[0 4 1 5 2 6 3] 8 0"},
		{"4/110 4/110 4/110 4/110 4/110 4/10 4/10", "[0 1 2 5 3 6 4] 10 0"},
	} {
		order, pegs, code := impl.FewestPegs(read(t, c.text))
		is(t, c.text, c.want, order, pegs, code)
	}
}

func TestNarrowest(t *testing.T) {
	for _, c := range []struct{ text, want string }{
		{"", "[] 0 0"},
		{"200/500", "[0] 200 0"},
		{"50/40 30/100 60/60", "[0 2 1] 139 0"},
		{"4/60 4/60 4/60", "[0 1 2] 8 0"},
		{"4/60 4/60 4/61", "[0 1 2] 11 0"},
		{"4/60 4/61 4/60", "[0 2 1] 11 0"},
		{"4/500 5/400 6/300", "[0 1 2] 17 0"},
	} {
		order, width, code := impl.Narrowest(read(t, c.text))
		is(t, c.text, c.want, order, width, code)
	}
}

func TestNoOrderNeedsFewerPegs(t *testing.T) {
	d := dice(23)
	always := func([]impl.Cloth) bool { return true }
	for count, runs := range []int{1, 5, 50, 100, 150, 100, 60, 40} {
		all := everyOrder(count)
		for range runs {
			list := d.cloths(count)
			want, pegs, _ := naiveLeast(list, all, always, naivePegs)
			order, got, code := impl.FewestPegs(list)
			is(t, fmt.Sprint("fewest pegs of ", list), fmt.Sprint(want, pegs, 0), order, got, code)
			want, width, _ := naiveLeast(list, all, always, naiveWidth)
			order, got, code = impl.Narrowest(list)
			is(t, fmt.Sprint("narrowest of ", list), fmt.Sprint(want, width, 0), order, got, code)
		}
	}
}

// TestTheBestOrderIsAsGoodAsTold puts cloths into the orders that are returned.
func TestTheBestOrderIsAsGoodAsTold(t *testing.T) {
	d := dice(24)
	for range 300 {
		list := d.cloths(d.below(8))
		own, _ := impl.PegsFor(list)
		order, pegs, _ := impl.FewestPegs(list)
		turned, code := impl.InOrder(list, order)
		if again, _ := impl.PegsFor(turned); code != impl.OK || again != pegs || pegs > own {
			t.Fatalf("%v in the order %v: %d pegs, told %d, at first %d", list, order, again, pegs, own)
		}
		order, width, _ := impl.Narrowest(list)
		turned, code = impl.InOrder(list, order)
		if again, _ := impl.WidthFor(turned); code != impl.OK || again != width {
			t.Fatalf("%v in the order %v: width %d, told %d", list, order, again, width)
		}
		l := line(int16(100+d.below(300)), int16(100+d.below(700)))
		order, sag, code := impl.LeastSag(l, list)
		if code == impl.ErrNotFound {
			continue
		}
		turned, _ = impl.InOrder(list, order)
		if again, code := impl.SagOf(l, turned); code != impl.OK || again != sag {
			t.Fatalf("%v %v in the order %v: sag %d %d, told %d", l, list, order, again, code, sag)
		}
	}
}

func TestSagOf(t *testing.T) {
	for _, c := range []struct {
		long, most int16
		text, want string
	}{
		{200, 300, "50/40 30/100 60/60", "64 0"}, // 5, 33 and 26
		{200, 300, "50/40", "5 0"},
		{200, 300, "50/47", "5 0"}, // 5.875
		{200, 300, "50/48", "6 0"},
		{4, 1, "", "0 0"},
		{4, 1, "4/1", "0 0"},
		{4, 500, "4/500", "250 0"},               // in the middle
		{142, 200, "50/40 30/100 60/60", "65 0"}, // 7 (2000/284), 46 (13200/284) and 12 (3600/284)
		{141, 200, "50/40 30/100 60/60", "0 4"},
		{142, 199, "50/40 30/100 60/60", "0 4"},
		{11, 400, "5/200 5/200", "90 0"},                         // each one 200 * 5 / 22
		{2000, 2000, "200/500 200/500 200/500 200/500", "400 0"}, // 25, 75, 125 and 175
		{2000, 2000, "200/500 200/500 200/500 200/500 200/1", "0 4"},
	} {
		sag, code := impl.SagOf(line(c.long, c.most), read(t, c.text))
		is(t, fmt.Sprint(c.long, c.most, c.text), c.want, sag, code)
	}
}

func TestLeastSag(t *testing.T) {
	for _, c := range []struct {
		long, most int16
		text, want string
	}{
		{4, 1, "", "[] 0 0"},
		{4, 500, "4/500", "[0] 250 0"},
		{4, 1, "5/1", "[] 0 6"},
		{4, 499, "4/500", "[] 0 6"},
		{139, 200, "50/40 30/100 60/60", "[1 0 2] 38 0"}, // 10, 16 and 12; it fits only where the first and the last one are neighbours
		{138, 200, "50/40 30/100 60/60", "[] 0 6"},
		{139, 199, "50/40 30/100 60/60", "[] 0 6"},
		{8, 120, "4/60 4/30 4/30", "[0 1 2] 37 0"},
		{2000, 2000, "200/1 200/1 200/1", "[0 1 2] 0 0"}, // no order sags at all
	} {
		order, sag, code := impl.LeastSag(line(c.long, c.most), read(t, c.text))
		is(t, fmt.Sprint(c.long, c.most, c.text), c.want, order, sag, code)
	}
}

func TestNoOrderSagsLess(t *testing.T) {
	d := dice(25)
	found := 0
	for count, runs := range []int{1, 20, 50, 100, 150, 100, 60, 40} {
		all := everyOrder(count)
		for range runs {
			l, list := line(int16(10+28*count+d.below(40)), int16(40+80*count)), d.cloths(count)
			wantCode := int64(impl.OK)
			want, least, fits := naiveLeast(list, all, func(turned []impl.Cloth) bool { return naiveFits(l, turned) }, func(turned []impl.Cloth) int64 { return naiveSag(l, turned) })
			if !fits {
				wantCode = impl.ErrNotFound
			} else {
				found++
			}
			order, sag, code := impl.LeastSag(l, list)
			is(t, fmt.Sprint("least sag ", l, list), fmt.Sprint(want, least, wantCode), order, sag, code)
		}
	}
	if found < 150 || found > 450 { // of 521
		t.Errorf("%d fit: the lines do not suit the cloths", found)
	}
}

func TestFirstLines(t *testing.T) {
	for _, c := range []struct {
		long, most int16
		text, want string
	}{
		{4, 1, "", "[] 0 0"},
		{4, 1, "4/1", "[0] 1 0"},
		{100, 140, "50/40 30/100 60/60", "[0 0 1] 2 0"},
		{120, 140, "50/40 60/60 30/100", "[0 0 1] 2 0"},
		{108, 140, "50/40 30/100 60/60", "[0 0 1] 2 0"},
		{107, 140, "50/40 60/60 30/60", "[0 1 0] 2 0"},          // 50 and 60 are 108 wide; 50 and 30, neighbours then, 78
		{2000, 500, "4/150 4/200 4/300 4/350", "[0 0 1 2] 3 0"}, // more than the fewest
		{4, 500, "4/1 4/1 4/1 4/1 4/1 4/1 4/1", "[0 1 2 3 4 5 6] 7 0"},
		{4, 1, "4/1 4/2", "[] 0 6"}, {4, 1, "5/1", "[] 0 6"},
	} {
		lines, count, code := impl.FirstLines(line(c.long, c.most), read(t, c.text))
		is(t, fmt.Sprint(c.long, c.most, c.text), c.want, lines, count, code)
	}
}

func TestFirstLinesTakesTheFirstOne(t *testing.T) {
	d := dice(26)
	for range 3000 {
		l, list := line(int16(56+d.below(150)), int16(120+d.below(200))), d.cloths(d.below(8))
		var rows [][]impl.Cloth
		var want []int64
		for _, c := range list {
			n := slices.IndexFunc(rows, func(row []impl.Cloth) bool { return naiveFits(l, append(slices.Clone(row), c)) })
			if n < 0 {
				n = len(rows)
				rows = append(rows, nil)
			}
			rows[n] = append(rows[n], c)
			want = append(want, int64(n))
		}
		lines, count, code := impl.FirstLines(l, list)
		is(t, fmt.Sprint(l, list), fmt.Sprint(want, len(rows), 0), lines, count, code)
	}
}

func TestFewestLines(t *testing.T) {
	for _, c := range []struct {
		long, most int16
		text, want string
	}{
		{4, 1, "", "[] 0 0"},
		{4, 1, "4/1", "[0] 1 0"},
		{120, 140, "50/40 30/100 60/60", "[0 0 1] 5 0"},
		{2000, 500, "4/150 4/200 4/300 4/350", "[0 1 1 0] 9 0"}, // fewer than the first ones
		{2000, 2000, "4/1 4/1 4/1 4/1 4/1 4/1 4/1", "[0 0 0 0 0 0 0] 7 0"},
		{4, 500, "4/1 4/1 4/1 4/1 4/1 4/1 4/1", "[0 1 2 3 4 5 6] 28 0"}, // 1 and 2 and so on up to 7
		{107, 140, "50/40 60/60 30/60", "[0 1 0] 4 0"},
		{4, 1, "4/1 4/2", "[] 0 6"}, {4, 1, "5/1", "[] 0 6"},
	} {
		lines, tries, code := impl.FewestLines(line(c.long, c.most), read(t, c.text), impl.MaxHangs)
		is(t, fmt.Sprint(c.long, c.most, c.text), c.want, lines, tries, code)
	}
}

func TestNoFewerLines(t *testing.T) {
	d := dice(27)
	for count, runs := range []int{1, 5, 30, 60, 60, 30, 10, 2} {
		for range runs {
			l, list := line(int16(56+d.below(150)), int16(120+d.below(200))), d.cloths(count)
			fewest := math.MaxInt
			var want []int64
			everyLoads(count, max(count, 1), func(lines []int64) {
				if used := len(rowsOf(list, lines)); used < fewest && naiveRightLines(l, list, lines) {
					want, fewest = slices.Clone(lines), used
				}
			})
			lines, _, code := impl.FewestLines(l, list, impl.MaxHangs)
			if !slices.Equal(lines, want) || code != impl.OK {
				t.Fatalf("%v %v: got %v %d, want %v", l, list, lines, code, want)
			}
		}
	}
}

func TestTriesAndTheBudget(t *testing.T) {
	d := dice(28)
	for range 2000 {
		l, list := line(int16(56+d.below(100)), int16(120+d.below(250))), d.cloths(d.below(8))
		want, tries := naiveFewestLines(l, list)
		for _, budget := range []int64{tries, tries + 1, impl.MaxHangs} {
			lines, got, code := impl.FewestLines(l, list, budget)
			is(t, fmt.Sprint(l, list, budget), fmt.Sprint(want, tries, 0), lines, got, code)
		}
		for _, budget := range []int64{tries - 1, tries / 2, 0} {
			if budget < 0 || budget == tries {
				continue
			}
			lines, got, code := impl.FewestLines(l, list, budget)
			is(t, fmt.Sprint(l, list, budget), "[] 0 7", lines, got, code)
		}
		_, first, _ := impl.FirstLines(l, list)
		if right, code := impl.CheckLines(l, list, want); !right || code != impl.OK || len(rowsOf(list, want)) > int(first) {
			t.Fatalf("%v %v: the lines %v are %v %d, and the first ones are %d", l, list, want, right, code, first)
		}
	}
}

func TestCheckLines(t *testing.T) {
	list := threeCloths()
	for _, c := range []struct {
		long, most int16
		lines      []int64
		want       string
	}{
		{142, 200, []int64{0, 0, 0}, "true 0"}, {141, 200, []int64{0, 0, 0}, "false 0"}, {142, 199, []int64{0, 0, 0}, "false 0"},
		{142, 200, []int64{6, 6, 6}, "true 0"}, {142, 200, []int64{5, 0, 3}, "true 0"}, // numbers may be left out
		{108, 100, []int64{0, 1, 0}, "true 0"}, {107, 100, []int64{0, 1, 0}, "false 0"}, // the first and the last one are neighbours then
		{108, 99, []int64{0, 1, 0}, "false 0"}, {60, 100, []int64{2, 1, 0}, "true 0"}, {59, 100, []int64{2, 1, 0}, "false 0"},
		{60, 99, []int64{2, 1, 0}, "false 0"},
		{200, 300, nil, "false 0"}, {200, 300, []int64{0, 0}, "false 0"}, {200, 300, []int64{0, 0, 0, 0}, "false 0"},
		{200, 300, []int64{0, 0, 7}, "false 0"}, {200, 300, []int64{-1, 0, 0}, "false 0"}, {200, 300, []int64{0, 256, 0}, "false 0"},
		{200, 300, []int64{0, math.MaxInt64, 0}, "false 0"}, {200, 300, []int64{0, 0, math.MinInt64}, "false 0"}, {200, 300, []int64{0, 0, 1 << 32}, "false 0"},
	} {
		right, code := impl.CheckLines(line(c.long, c.most), list, c.lines)
		is(t, fmt.Sprint(c.long, c.most, c.lines), c.want, right, code)
	}
	right, code := impl.CheckLines(line(4, 1), nil, nil)
	is(t, "no cloths", "true 0", right, code)
	right, code = impl.CheckLines(line(4, 1), nil, []int64{0})
	is(t, "no cloths, but a number", "false 0", right, code)
	right, code = impl.CheckLines(line(4, 1), manyCloths(cloth(4, 1), 7), []int64{6, 5, 4, 3, 2, 1, 0})
	is(t, "seven lines", "true 0", right, code)
}

func TestRightLinesAreThoseThatFit(t *testing.T) {
	d := dice(29)
	for range 3000 {
		l, list := line(int16(56+d.below(200)), int16(120+d.below(300))), d.cloths(d.below(8))
		lines := make([]int64, len(list))
		for i := range lines {
			lines[i] = int64(d.below(3))
		}
		right, code := impl.CheckLines(l, list, lines)
		is(t, fmt.Sprint(l, list, lines), fmt.Sprint(naiveRightLines(l, list, lines), 0), right, code)
	}
}

func TestWhichLine(t *testing.T) {
	list := threeCloths()
	for _, c := range []struct {
		lines []impl.Line
		want  string
	}{
		{nil, "0 6"},
		{[]impl.Line{line(142, 200)}, "0 0"},
		{[]impl.Line{line(141, 200), line(142, 199)}, "0 6"},
		{[]impl.Line{line(141, 2000), line(2000, 199), line(142, 200), line(2000, 2000)}, "2 0"},
		{[]impl.Line{line(2000, 2000), line(142, 200)}, "0 0"}, // the first one, not the shortest
		{[]impl.Line{line(139, 200)}, "0 6"},                   // in another order they would fit
	} {
		which, code := impl.WhichLine(c.lines, list)
		is(t, fmt.Sprint(c.lines), c.want, which, code)
	}
	which, code := impl.WhichLine([]impl.Line{line(4, 1)}, nil)
	is(t, "no cloths", "0 0", which, code)
	which, code = impl.WhichLine(nil, nil)
	is(t, "no cloths, and no lines", "0 6", which, code)
}
