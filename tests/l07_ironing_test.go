package tests

import (
	"fmt"
	"slices"
	"testing"

	"loop.example/g01378/impl"
)

const exampleOfIroning = "1/10@20 3/5@12 2/8@60"

func TestExampleOfIroning(t *testing.T) {
	x, list := iron(2, 5), toIron(exampleOfIroning)
	order, least, code := impl.ShortestOrder(x, list)
	is(t, "the shortest order", "[0 2 1] 29 0", order, least, code)
	times, code := impl.FinishTimes(x, list, order)
	is(t, "its times", "[12 22 29] 0", times, code)
	bound, code := impl.TimeBound(x, list)
	is(t, "the bound", "29 0", bound, code)
	late, code := impl.LateIn(x, list, order)
	is(t, "late", "[1] 0", late, code)
	minutes, code := impl.LatenessOf(x, list, order)
	is(t, "by", "17 0", minutes, code)
	order, minutes, code = impl.LeastLateness(x, list)
	is(t, "the least lateness", "[0 1 2] 9 0", order, minutes, code)
	irons, least, code := impl.TwoIrons(x, list)
	is(t, "two irons", "[0 1 1] 19 0", irons, least, code)
}

func TestLimitsOfIroning(t *testing.T) {
	is(t, "limits", "8 3 60 1000", impl.MaxIron, impl.MaxLevel, impl.MaxMinutes, impl.MaxDue)
}

func TestValidPiece(t *testing.T) {
	for level := -128; level <= 127; level++ {
		for minutes := -128; minutes <= 127; minutes++ {
			want := level >= 1 && level <= 3 && minutes >= 1 && minutes <= 60
			for _, due := range []int16{0, 1, 999, 1000} {
				p := toPress(int8(level), int8(minutes), due)
				if impl.ValidPiece(p) != want {
					t.Fatalf("%v: want %t", p, want)
				}
			}
		}
	}
	for due := -32768; due <= 32767; due++ {
		p := toPress(3, 60, int16(due))
		if want := due >= 0 && due <= 1000; impl.ValidPiece(p) != want {
			t.Fatalf("%v: want %t", p, want)
		}
	}
	for _, p := range wrongPieces() {
		is(t, fmt.Sprint(p), "false", impl.ValidPiece(p))
	}
}

func TestValidIron(t *testing.T) {
	for up := -128; up <= 127; up++ {
		for down := -128; down <= 127; down++ {
			want := up >= 0 && up <= 60 && down >= 0 && down <= 60
			if x := iron(int8(up), int8(down)); impl.ValidIron(x) != want {
				t.Fatalf("%v: want %t", x, want)
			}
		}
	}
}

func TestChangeTime(t *testing.T) {
	for _, c := range []struct {
		x        impl.Iron
		from, to int64
		want     string
	}{
		{iron(2, 5), 0, 0, "0 0"},
		{iron(2, 5), 3, 3, "0 0"}, // the same level
		{iron(2, 5), 1, 1, "0 0"},
		{iron(2, 5), 0, 3, "6 0"}, // up
		{iron(2, 5), 0, 1, "2 0"},
		{iron(2, 5), 1, 3, "4 0"},
		{iron(2, 5), 3, 0, "15 0"}, // down
		{iron(2, 5), 3, 1, "10 0"},
		{iron(2, 5), 1, 0, "5 0"},
		{iron(0, 5), 0, 3, "0 0"},
		{iron(0, 5), 3, 0, "15 0"},
		{iron(2, 0), 3, 0, "0 0"},
		{iron(2, 0), 0, 3, "6 0"},
		{iron(60, 60), 0, 3, "180 0"},
		{iron(60, 60), 3, 0, "180 0"},
		{iron(2, 5), -1, 0, "0 2"},
		{iron(2, 5), 4, 0, "0 2"},
		{iron(2, 5), 0, -1, "0 2"},
		{iron(2, 5), 0, 4, "0 2"},
		{iron(2, 5), 4, 4, "0 2"},
		{iron(2, 5), -1, 4, "0 2"},
	} {
		minutes, code := impl.ChangeTime(c.x, c.from, c.to)
		is(t, fmt.Sprint(c.x, c.from, c.to), c.want, minutes, code)
	}
	for up := range int8(61) {
		for down := range int8(61) {
			for from := range int64(4) {
				for to := range int64(4) {
					x := iron(up, down)
					minutes, code := impl.ChangeTime(x, from, to)
					if minutes != naiveChange(x, from, to) || code != impl.OK {
						t.Fatalf("%v from %d to %d: %d %d", x, from, to, minutes, code)
					}
				}
			}
		}
	}
}

// runs are orders of ironing, with what is known of them: the times, the last one, who is late, by how much, and the sum of times.
var runs = []struct {
	x     impl.Iron
	list  string
	order []int64
	want  string
}{
	{iron(2, 5), "", nil, "[] 0 [] 0 0"},
	{iron(2, 5), "1/10@20", []int64{0}, "[12] 12 [] 0 12"}, // from cold to the first level, and not back
	{iron(2, 5), "3/10@16", []int64{0}, "[16] 16 [] 0 16"}, // just when it is due
	{iron(2, 5), "3/10@15", []int64{0}, "[16] 16 [0] 1 16"},
	{iron(2, 5), "3/10@17", []int64{0}, "[16] 16 [] 0 16"},
	{iron(0, 0), "1/1@0", []int64{0}, "[1] 1 [0] 1 1"},
	{iron(0, 0), "1/1@1", []int64{0}, "[1] 1 [] 0 1"},
	{iron(60, 60), "3/60@1000", []int64{0}, "[240] 240 [] 0 240"},
	{iron(2, 5), exampleOfIroning, []int64{0, 2, 1}, "[12 22 29] 29 [1] 17 63"},
	{iron(2, 5), exampleOfIroning, []int64{0, 1, 2}, "[12 21 34] 34 [1] 9 67"},
	{iron(2, 5), exampleOfIroning, []int64{1, 0, 2}, "[11 31 41] 41 [0] 11 83"},
	{iron(2, 5), exampleOfIroning, []int64{1, 2, 0}, "[11 24 39] 39 [0] 19 74"},
	{iron(2, 5), exampleOfIroning, []int64{2, 1, 0}, "[12 19 39] 39 [0 1] 26 70"}, // ascending, not by the order
	{iron(2, 5), exampleOfIroning, []int64{2, 0, 1}, "[12 27 36] 36 [0 1] 31 75"},
	{iron(0, 5), exampleOfIroning, []int64{1, 0, 2}, "[5 25 33] 33 [0] 5 63"},  // up takes no time
	{iron(2, 0), exampleOfIroning, []int64{1, 0, 2}, "[11 21 31] 31 [0] 1 63"}, // down takes none
	{iron(0, 0), exampleOfIroning, []int64{1, 0, 2}, "[5 15 23] 23 [] 0 43"},
	{iron(2, 5), "2/4@8 2/4@12 2/4@16", []int64{0, 1, 2}, "[8 12 16] 16 [] 0 36"}, // all just when they are due
	{iron(2, 5), "2/4@8 2/4@12 2/4@16", []int64{2, 1, 0}, "[8 12 16] 16 [0] 8 36"},
	{iron(2, 5), "2/4@7 2/4@11 2/4@15", []int64{0, 1, 2}, "[8 12 16] 16 [0 1 2] 3 36"},
	{iron(60, 60), "3/60@0 1/60@0 3/60@0 1/60@0 3/60@0 1/60@0 3/60@0 1/60@0", []int64{0, 1, 2, 3, 4, 5, 6, 7}, "[240 420 600 780 960 1140 1320 1500] 1500 [0 1 2 3 4 5 6 7] 6960 6960"},
	{iron(60, 60), "3/60@1000 1/60@1000 3/60@1000 1/60@1000 3/60@1000 1/60@1000 3/60@1000 1/60@1000", []int64{7, 6, 5, 4, 3, 2, 1, 0}, "[120 300 480 660 840 1020 1200 1380] 1380 [0 1 2] 600 6000"},
}

func tellRun(x impl.Iron, list []impl.Piece, order []int64) string {
	times, one := impl.FinishTimes(x, list, order)
	last, two := impl.TotalTime(x, list, order)
	late, three := impl.LateIn(x, list, order)
	minutes, four := impl.LatenessOf(x, list, order)
	wait, five := impl.WaitSum(x, list, order)
	if one+two+three+four+five != impl.OK {
		return fmt.Sprint(one, two, three, four, five)
	}
	return fmt.Sprint(times, last, late, minutes, wait)
}

func TestRunsOfIroning(t *testing.T) {
	for _, c := range runs {
		is(t, fmt.Sprint(c.x, c.list, c.order), c.want, tellRun(c.x, toIron(c.list), c.order))
	}
}

func TestAnyRunOfIroning(t *testing.T) {
	d := dice(120)
	late, punctual := 0, 0
	for range 20000 {
		x, list := d.iron(), d.pieces(d.below(9))
		order := d.order(len(list))
		indices, minutes := []int64{}, int64(0)
		for _, p := range naiveLate(x, list, order) {
			indices, minutes = append(indices, p.i), minutes+p.by
		}
		want := fmt.Sprint(naiveFinish(x, list, order), naiveTotal(x, list, order), indices, minutes, naiveWait(x, list, order))
		is(t, fmt.Sprint(x, list, order), want, tellRun(x, list, order))
		for k, time := range naiveFinish(x, list, order) {
			switch due := int64(list[order[k]].Due); time {
			case due:
				punctual++
			case due + 1:
				late++
			}
		}
	}
	if late < 100 || punctual < 100 {
		t.Errorf("only %d pieces just at their minute, and %d one behind", punctual, late)
	}
}

func TestRisingAndDueOrder(t *testing.T) {
	for _, c := range []struct{ list, rising, due string }{
		{"", "[] 0", "[] 0"},
		{"2/8@60", "[0] 0", "[0] 0"},
		{exampleOfIroning, "[0 2 1] 0", "[1 0 2] 0"},
		{"3/1@0 2/1@1 1/1@2", "[2 1 0] 0", "[0 1 2] 0"},
		{"1/1@2 2/1@1 3/1@0", "[0 1 2] 0", "[2 1 0] 0"},
		{"2/1@5 2/2@4 2/3@3 2/4@2", "[0 1 2 3] 0", "[3 2 1 0] 0"}, // equal levels: by index, whatever else
		{"1/4@7 2/3@7 3/2@7 1/1@7", "[0 3 1 2] 0", "[0 1 2 3] 0"}, // equal dues
		{"2/1@9 1/1@9 2/1@3 1/1@3", "[1 3 0 2] 0", "[2 3 0 1] 0"},
		{"2/1@9 2/1@9", "[0 1] 0", "[0 1] 0"},
		{"1/1@1000 1/1@0 1/1@256 1/1@255", "[0 1 2 3] 0", "[1 3 2 0] 0"},
		{"3/1@1 1/1@2 3/1@1 1/1@2 2/1@0 3/1@1 2/1@0 1/1@2", "[1 3 7 4 6 0 2 5] 0", "[4 6 0 2 5 1 3 7] 0"},
	} {
		rising, code := impl.RisingOrder(toIron(c.list))
		is(t, "rising "+c.list, c.rising, rising, code)
		due, code := impl.DueOrder(toIron(c.list))
		is(t, "due "+c.list, c.due, due, code)
	}
	d := dice(121)
	for range 3000 {
		list := d.pieces(d.below(9))
		rising, code := impl.RisingOrder(list)
		is(t, fmt.Sprint(list), fmt.Sprint(naiveSorted(list, func(p impl.Piece) int { return int(p.Level) }), 0), rising, code)
		due, code := impl.DueOrder(list)
		is(t, fmt.Sprint(list), fmt.Sprint(naiveSorted(list, func(p impl.Piece) int { return int(p.Due) }), 0), due, code)
	}
}

func TestNearestOrder(t *testing.T) {
	for _, c := range []struct {
		x          impl.Iron
		list, want string
	}{
		{iron(2, 5), "", "[] 0"},
		{iron(2, 5), "3/60@0", "[0] 0"},
		{iron(2, 5), exampleOfIroning, "[1 2 0] 0"}, // 12, 11 and 12 from cold; then 20 and 13 more
		{iron(0, 0), exampleOfIroning, "[1 2 0] 0"},
		{iron(2, 5), "1/5@9 1/5@0", "[0 1] 0"}, // at the same minute, whatever is due
		{iron(2, 5), "2/3@0 1/5@0", "[0 1] 0"}, // at the same minute by other levels
		{iron(2, 5), "1/5@0 2/3@0", "[0 1] 0"},
		{iron(2, 5), "2/4@0 1/5@0", "[1 0] 0"},
		{iron(2, 5), "1/9@0 2/7@0 3/5@0 3/5@0", "[0 1 2 3] 0"}, // all at 11, then all others at 20, and then at 27
		{iron(0, 0), "3/7@0 2/7@0 1/7@0", "[0 1 2] 0"},
		{iron(0, 60), "1/9@0 3/7@0 2/8@0", "[1 2 0] 0"}, // from 3 down to 2 and to 1
		{iron(60, 0), "3/1@0 2/50@0 1/60@0", "[2 1 0] 0"},
		{iron(1, 1), "1/4@0 2/4@0 3/2@0 1/3@0", "[3 0 2 1] 0"}, // 4 is nearest from cold; then 4 with no change, and 4 by two levels; at last 5
		{iron(5, 0), "2/9@0 1/3@0 2/1@0 1/4@0", "[1 3 2 0] 0"},
	} {
		order, code := impl.NearestOrder(c.x, toIron(c.list))
		is(t, fmt.Sprint(c.x, c.list), c.want, order, code)
	}
	d := dice(122)
	for range 3000 {
		x, list := d.iron(), d.pieces(d.below(9))
		order, code := impl.NearestOrder(x, list)
		is(t, fmt.Sprint(x, list), fmt.Sprint(naiveNearest(x, list), 0), order, code)
	}
}

// TestNearestIsNotAlwaysBest has a list for which another order takes less time.
func TestNearestIsNotAlwaysBest(t *testing.T) {
	x, list := iron(2, 5), toIron(exampleOfIroning)
	order, _ := impl.NearestOrder(x, list)
	time, code := impl.TotalTime(x, list, order)
	is(t, "the nearest", "[1 2 0] 39 0", order, time, code)
}

func TestTimeBound(t *testing.T) {
	for _, c := range []struct {
		x          impl.Iron
		list, want string
	}{
		{iron(2, 5), "", "0 0"},
		{iron(60, 60), "", "0 0"},
		{iron(2, 5), "1/1@0", "3 0"},
		{iron(2, 5), "3/1@0", "7 0"},
		{iron(2, 5), exampleOfIroning, "29 0"},
		{iron(0, 5), exampleOfIroning, "23 0"},
		{iron(2, 0), exampleOfIroning, "29 0"},
		{iron(2, 5), "3/5@0 1/5@0", "16 0"}, // the greatest level, not the last one
		{iron(2, 5), "1/5@0 3/5@0", "16 0"},
		{iron(60, 60), "3/60@0 3/60@0 3/60@0 3/60@0 3/60@0 3/60@0 3/60@0 3/60@0", "660 0"},
		{iron(1, 60), "1/1@0 1/1@0 1/1@0 1/1@0 1/1@0 1/1@0 1/1@0 2/1@0", "10 0"},
	} {
		bound, code := impl.TimeBound(c.x, toIron(c.list))
		is(t, fmt.Sprint(c.x, c.list), c.want, bound, code)
	}
}

// TestNoOrderTakesLessThanTheBound has orders that reach it, and others that do not; the rising one always does.
func TestNoOrderTakesLessThanTheBound(t *testing.T) {
	d := dice(123)
	reached, not := 0, 0
	for range 3000 {
		x, list := d.iron(), d.pieces(d.below(9))
		want, greatest := int64(0), int64(0)
		for _, p := range list {
			want, greatest = want+int64(p.Minutes), max(greatest, int64(p.Level))
		}
		bound, code := impl.TimeBound(x, list)
		is(t, fmt.Sprint(x, list), fmt.Sprint(want+greatest*int64(x.Up), 0), bound, code)
		time, code := impl.TotalTime(x, list, d.order(len(list)))
		if time < bound || code != impl.OK {
			t.Fatalf("%v %v: %d %d, which is less than %d", x, list, time, code, bound)
		}
		if time == bound {
			reached++
		} else {
			not++
		}
		rising, _ := impl.RisingOrder(list)
		time, code = impl.TotalTime(x, list, rising)
		is(t, "rising", fmt.Sprint(bound, 0), time, code)
		_, least, code := impl.ShortestOrder(x, list)
		is(t, "the shortest", fmt.Sprint(bound, 0), least, code)
	}
	if reached < 300 || not < 300 {
		t.Errorf("%d orders reach the bound, and %d do not", reached, not)
	}
}

func TestTwoIrons(t *testing.T) {
	for _, c := range []struct {
		x          impl.Iron
		list, want string
	}{
		{iron(2, 5), "", "[] 0 0"},
		{iron(3, 5), "2/7@0", "[0] 13 0"},
		{iron(60, 60), "3/60@1000", "[0] 240 0"},
		{iron(2, 5), exampleOfIroning, "[0 1 1] 19 0"},
		{iron(2, 5), "1/5@0 1/5@0", "[0 1] 7 0"},
		{iron(1, 1), "1/5@0 1/5@0 1/5@0", "[0 0 1] 11 0"},   // as good as 0, 1 and 0, and 0, 1 and 1
		{iron(0, 0), "1/10@0 1/10@0 1/1@0", "[0 1 0] 11 0"}, // the third one goes to either iron
		{iron(0, 0), "1/60@0 1/1@0 1/1@0", "[0 1 1] 60 0"},
		{iron(0, 0), "1/1@0 1/1@0 1/60@0", "[0 0 1] 60 0"},
		{iron(0, 0), "1/9@0 1/2@0 1/2@0 1/2@0", "[0 1 1 1] 9 0"},
		{iron(0, 0), "1/9@0 1/2@0 1/2@0 1/2@0 1/60@0", "[0 0 0 0 1] 60 0"}, // the other iron has time for all
		{iron(5, 0), "3/10@0 1/9@0", "[0 1] 25 0"},
		{iron(60, 0), "3/1@0 3/1@0 1/1@0 1/1@0", "[0 0 1 1] 182 0"}, // as good as 0, 1, 0 and 1
		{iron(2, 60), "1/6@0 3/6@0 1/6@0 3/6@0", "[0 0 1 1] 18 0"},
		{iron(1, 1), "1/1@0 1/1@0 1/1@0 1/1@0 1/1@0 1/1@0 1/1@0 1/1@0", "[0 0 0 0 1 1 1 1] 5 0"},
		{iron(60, 60), "3/60@0 3/60@0 3/60@0 3/60@0 3/60@0 3/60@0 3/60@0 3/60@0", "[0 0 0 0 1 1 1 1] 420 0"},
	} {
		irons, least, code := impl.TwoIrons(c.x, toIron(c.list))
		is(t, fmt.Sprint(c.x, c.list), c.want, irons, least, code)
	}
}

func TestNoSharingIsReadyEarlier(t *testing.T) {
	d, orders := dice(124), ordersUpTo(8)
	several := 0
	check := func(x impl.Iron, list []impl.Piece) {
		want, time, count := naiveTwo(x, list, orders)
		if count > 2 { // each one can be turned round
			several++
		}
		irons, least, code := impl.TwoIrons(x, list)
		is(t, fmt.Sprint(x, list), fmt.Sprint(want, time, 0), irons, least, code)
	}
	for range 400 {
		check(d.iron(), d.pieces(d.below(6)))
	}
	for range 3 {
		check(d.iron(), d.pieces(8))
	}
	if several < 100 {
		t.Errorf("only %d times are several sharings as good", several)
	}
}

// TestTwoIronsShareAll iron the pieces of each iron alone: the later one of both is ready when it is told.
func TestTwoIronsShareAll(t *testing.T) {
	d := dice(125)
	for range 1000 {
		x, list := d.iron(), d.pieces(d.below(9))
		irons, least, _ := impl.TwoIrons(x, list)
		var shares [2][]impl.Piece
		for i, n := range irons {
			shares[n] = append(shares[n], list[i])
		}
		_, one, _ := impl.ShortestOrder(x, shares[0])
		_, other, _ := impl.ShortestOrder(x, shares[1])
		_, alone, _ := impl.ShortestOrder(x, list)
		if max(one, other) != least || least > alone || len(irons) != len(list) || slices.Contains(irons[:min(1, len(irons))], 1) {
			t.Fatalf("%v %v: %v %d, by %d and %d; alone %d", x, list, irons, least, one, other, alone)
		}
	}
}
