package tests

import (
	"fmt"
	"reflect"
	"slices"
	"testing"

	"loop.example/g01378/impl"
)

// The tests here take one washing through all chapters (promise 19).

// TestWashingOfTheExamples takes the three things of the document's examples through all chapters: two of them are of the
// owner, and kind, 0, and the second one of 1.
func TestWashingOfTheExamples(t *testing.T) {
	needs, none := []int64{2, 1}, []int64{0, 0}
	h, code := impl.NewHouse(needs, 10, 7)
	is(t, "new", "10 7 0 / 2c8 / 1c8 0", tellHouse(h), code)
	h, shorts, code := impl.DayAll(h, [][]int64{needs, none})
	is(t, "used, and dirty", "10 7 2 / 2d7 / 1d7 [[0 0] [0 0]] 0", tellHouse(h), shorts, code)

	garments, code := impl.ReadGarments("0/60-95 500\n1/30-40 300\n2/0-60 900\n")
	loads, count, codeOfLoads := impl.FewestLoads(pairs, 2000, garments)
	is(t, "loads", "0 [0 1 1] 2 0", code, loads, count, codeOfLoads)
	h, washed, code := impl.WashHouse(h)
	is(t, "washed", "10 7 2 / 2c7 / 1c7 3 0", tellHouse(h), washed, code)

	cloths, code := impl.ReadCloths("50/40 30/100 60/60")
	order, pegs, codeOfPegs := impl.FewestPegs(cloths)
	is(t, "pegs", "0 [0 2 1] 5 0", code, order, pegs, codeOfPegs)
	lines, tries, code := impl.FewestLines(line(200, 300), cloths, 100)
	is(t, "lines", "[0 0 0] 3 0", lines, tries, code)
	wet := []impl.Wash{wash(20, 2), wash(20, 4), wash(10, 2)}
	left, code := impl.HangInOrder(fairDay(), wet, order, 16)
	is(t, "left by the order of the fewest pegs", "[0 0 8] 0", left, code)
	best, water, code := impl.BestHanging(fairDay(), wet, 16)
	is(t, "the best hanging", "[1 0 2] 4 0", best, water, code)
	hour, code := impl.AllDryAt(fairDay(), wet, 0, order)
	is(t, "all are dry", "10 0", hour, code)

	list, code := impl.ReadPieces(exampleOfIroning)
	order, time, codeOfOrder := impl.ShortestOrder(iron(2, 5), list)
	is(t, "ironed", "0 [0 2 1] 29 0", code, order, time, codeOfOrder)
	folds, code := impl.FewestFolds(sheet(36, 24, 1), 12, 10, 12)
	is(t, "folded", "WH 0", impl.FoldsText(folds), code)

	owners, seen := marks("+..+ .++."), marks("+..+ ..+. ...+") // two have lost a stitch
	sorted, unread, code := impl.SortByMarks(4, owners, seen)
	is(t, "sorted", "[[0 2] [1]] [] 0", sorted, unread, code)
	missing, code := impl.MissingBy(needs, []int64{2, 1})
	is(t, "missing", "[0 0] 0", missing, code)
	c, code := impl.ReadCupboard("/")
	for _, i := range order {
		c, _, code = impl.PutSheet(c, i)
	}
	is(t, "put away as they are ironed", "0,1/2 0", impl.CupboardText(c), code)
}

// washing is some things, each one by its index in all lists, and marks of 12 stitches by the owners, who are kinds of a house.
type washing struct {
	owners   []int64
	counts   []int64 // by owner
	marks    []impl.Mark
	seen     []impl.Mark
	garments []impl.Garment
	cloths   []impl.Cloth
	wet      []impl.Wash
	sheets   []impl.Sheet
	pieces   []impl.Piece
}

// washing has things that may all be washed with each other, and weigh as garments what they weigh as cloths.
func (d *dice) washing() washing {
	count, kinds := d.below(7), 1+d.below(4)
	w := washing{counts: make([]int64, kinds), marks: someApart(kinds), pieces: d.pieces(count), wet: d.washes(count), cloths: d.cloths(count)}
	for i := range count {
		owner := d.below(kinds)
		w.owners = append(w.owners, int64(owner))
		w.counts[owner]++
		w.seen = append(w.seen, w.marks[owner]&^(1<<d.below(12)))
		w.garments = append(w.garments, garment(uint8(d.below(6)), int8(d.below(50)), int8(50+d.below(46)), w.cloths[i].Heavy))
		w.sheets = append(w.sheets, d.sheet())
	}
	return w
}

// allMeet are rules by which all colours may be washed with each other.
var allMeet = impl.Rules{63, 63, 63, 63, 63, 63}

func TestAllChaptersAgreeOnAWashing(t *testing.T) {
	d := dice(140)
	for range 400 {
		w := d.washing()
		checkHouseAndMarks(t, w)
		checkLoadsAndLines(t, &d, w)
		checkOrdersOfAll(t, &d, w)
		checkSharings(t, w)
		checkDryAndDue(t, &d, w)
		checkFoldedAndPut(t, &d, w)
		checkTextsOfAll(t, w)
		if t.Failed() {
			t.Fatalf("the washing %+v", w)
		}
	}
}

// checkHouseAndMarks has as many pieces washed as there are things, and each one comes back to its owner.
func checkHouseAndMarks(t *testing.T, w washing) {
	t.Helper()
	h, code := impl.NewHouse(w.counts, int64(len(w.owners)), 7)
	h, shorts, codeOfDays := impl.DayAll(h, [][]int64{w.counts, make([]int64, len(w.counts))})
	_, _, short := naiveShort(shorts)
	h, washed, codeOfWashing := impl.WashHouse(h)
	is(t, "all are used, and washed", fmt.Sprint("0 0 false ", len(w.owners), " 0"), code, codeOfDays, short, washed, codeOfWashing)
	for kind, k := range h.Kinds {
		is(t, "clean", fmt.Sprint(w.counts[kind]), k.Clean[6])
	}
	sorted, unread, code := impl.SortByMarks(12, w.marks, w.seen)
	found, owned := make([]int64, len(w.counts)), make([][]int64, len(w.counts))
	for i, owner := range w.owners {
		owned[owner] = append(owned[owner], int64(i))
	}
	for owner, things := range sorted {
		found[owner] = int64(len(things))
	}
	is(t, "sorted", fmt.Sprint(owned, " [] 0"), sorted, unread, code)
	missing, code := impl.MissingBy(w.counts, found)
	is(t, "missing", fmt.Sprint(make([]int64, len(w.counts)), 0), missing, code)
}

// checkLoadsAndLines has a machine that holds as much as a line, which is long enough for all: what is a load then hangs on
// one line, and the other way round.
func checkLoadsAndLines(t *testing.T, d *dice, w washing) {
	t.Helper()
	hold := []int{120, 150, 200, 300, 500, 100}[d.below(6)]
	l := line(2000, int16(hold))
	loads, count, code := impl.FewestLoads(allMeet, int64(hold), w.garments)
	lines, _, codeOfLines := impl.FewestLines(l, w.cloths, 20000)
	is(t, "the fewest loads, and lines", fmt.Sprint(loads, code), lines, codeOfLines)
	first, few, codeOfGreed := impl.GreedyLoads(allMeet, int64(hold), w.garments)
	onFirst, fewLines, codeOfFirst := impl.FirstLines(l, w.cloths)
	is(t, "loads, and lines, by greed", fmt.Sprint(first, few, codeOfGreed), onFirst, fewLines, codeOfFirst)
	bound, codeOfBound := impl.LoadsBound(allMeet, int64(hold), w.garments)
	if code == impl.OK && (bound > count || count > few) || codeOfBound != impl.OK {
		t.Errorf("%d loads, but the bound is %d, and greed takes %d", count, bound, few)
	}
	other := make([]int64, len(w.cloths))
	for i := range other {
		other[i] = int64(d.below(3))
	}
	for _, numbers := range [][]int64{loads, first, other} {
		right, code := impl.CheckLoads(allMeet, int64(hold), w.garments, numbers)
		rightLines, codeOfLines := impl.CheckLines(l, w.cloths, numbers)
		is(t, fmt.Sprint("are right ", numbers), fmt.Sprint(right, code), rightLines, codeOfLines)
	}
}

// checkOrdersOfAll has orders that one chapter tells, and others: each one is an order in all chapters, or in none.
func checkOrdersOfAll(t *testing.T, d *dice, w washing) {
	t.Helper()
	x, day := d.iron(), d.day()
	pegs, _, _ := impl.FewestPegs(w.cloths)
	narrow, _, _ := impl.Narrowest(w.cloths)
	hung, water, _ := impl.BestHanging(day, w.wet, 3)
	rising, _ := impl.RisingOrder(w.pieces)
	due, _ := impl.DueOrder(w.pieces)
	nearest, _ := impl.NearestOrder(x, w.pieces)
	orders := [][]int64{pegs, narrow, hung, rising, due, nearest, d.order(len(w.owners))}
	for _, s := range searches {
		order, _, _ := s.best(x, w.pieces)
		orders = append(orders, order)
	}
	for _, order := range orders {
		turned, one := impl.InOrder(w.cloths, order)
		left, two := impl.HangInOrder(day, w.wet, order, 3)
		times, three := impl.FinishTimes(x, w.pieces, order)
		count := len(w.owners)
		is(t, fmt.Sprint("the order ", order), fmt.Sprint(count, count, count, 0, 0, 0), len(turned), len(left), len(times), one, two, three)
		fewest, _ := impl.PegsFor(turned)
		inOrder, _ := impl.InOrder(w.cloths, pegs)
		least, _ := impl.PegsFor(inOrder)
		if fewest < least || total(left) < water {
			t.Errorf("%v takes %d pegs, and leaves %d; the best ones %d, and %d", order, fewest, total(left), least, water)
		}
	}
	for _, wrong := range [][]int64{append(slices.Clone(due), 0), append(slices.Clone(due), int64(len(due)))} {
		_, one := impl.InOrder(w.cloths, wrong)
		_, two := impl.HangInOrder(day, w.wet, wrong, 3)
		_, three := impl.FinishTimes(x, w.pieces, wrong)
		is(t, fmt.Sprint("no order ", wrong), "4 4 4", one, two, three)
	}
}

// checkSharings has an iron that needs no time for other levels: two irons share pieces by their minutes as two machines
// share garments by weight, each of which holds just as much.
func checkSharings(t *testing.T, w washing) {
	t.Helper()
	irons, time, code := impl.TwoIrons(iron(0, 0), w.pieces)
	if len(w.pieces) == 0 {
		is(t, "two irons", "[] 0 0", irons, time, code)
		return
	}
	var weights []impl.Garment
	for _, p := range w.pieces {
		weights = append(weights, garment(0, 0, 95, int16(p.Minutes)))
	}
	loads, count, codeOfLoads := impl.FewestLoads(allMeet, time, weights)
	is(t, "two irons, and two loads", fmt.Sprint(loads, codeOfLoads, count <= 2), irons, code, true)
	if time > 1 {
		_, count, code = impl.FewestLoads(allMeet, time-1, weights)
		if code != impl.ErrNotFound && count < 3 {
			t.Errorf("two machines hold %d, but two irons need %d", time-1, time)
		}
	}
	_, alone, _ := impl.ShortestOrder(iron(0, 0), w.pieces)
	minutes := int64(0)
	for _, g := range weights {
		minutes += int64(g.Weight)
	}
	is(t, "one iron", fmt.Sprint(minutes), alone)
}

// checkDryAndDue has pieces that are due at the hour at which they are dry, on a day without rain: they are ironed as they
// become dry, and the last one is dry when all are.
func checkDryAndDue(t *testing.T, d *dice, w washing) {
	t.Helper()
	day, list := d.dryDay(), slices.Clone(w.pieces)
	last, all := int64(0), int64(impl.OK)
	hours := make([]int64, len(list))
	for i := range list {
		hour, code := impl.DryAt(day, w.wet[i], 0, false)
		hours[i] = hour
		list[i].Due = int16(hour)
		last, all = max(last, hour), max(all, code)
	}
	hour, code := impl.AllDryAt(day, w.wet, 0, indicesBelow(len(list)))
	if all != impl.OK {
		last = 0
	}
	is(t, "all are dry", fmt.Sprint(last, all), hour, code)
	due, code := impl.DueOrder(list)
	var byHour []int64
	for _, i := range due {
		byHour = append(byHour, hours[i])
	}
	is(t, "by hours", "true 0", slices.IsSorted(byHour), code)
}

// checkFoldedAndPut folds all sheets, puts them into a cupboard by their indices, and takes them again.
func checkFoldedAndPut(t *testing.T, d *dice, w washing) {
	t.Helper()
	c := make([][]int64, 1+d.below(6))
	for i, s := range w.sheets {
		folds, smallest, code := impl.SmallestFor(s, 144)
		folded, codeOfFolds := impl.FoldAll(s, folds)
		area, _ := impl.AreaOf(s)
		again, _ := impl.AreaOf(folded)
		is(t, "folded", fmt.Sprint(smallest, area, 0, 0), folded, again, code, codeOfFolds)
		c, _, code = impl.PutSheet(c, int64(i))
		is(t, "put", "0", code)
	}
	for i := range w.sheets {
		pile, below, code := impl.FindSheet(c, int64(i))
		is(t, "found", fmt.Sprint(i%len(c), i/len(c), 0), pile, below, code)
	}
	taken, rest, code := impl.OldestFirst(c, int64(len(w.sheets)))
	slices.Sort(taken)
	is(t, "taken", fmt.Sprint(indicesBelow(len(w.sheets)), 0, 0), taken, len(sheetsOf(rest)), code)
}

// checkTextsOfAll reads all that a washing has from its texts.
func checkTextsOfAll(t *testing.T, w washing) {
	t.Helper()
	read := w
	read.garments, _ = impl.ReadGarments(impl.GarmentsText(w.garments))
	read.cloths, _ = impl.ReadCloths(impl.ClothsText(w.cloths))
	read.pieces, _ = impl.ReadPieces(impl.PiecesText(w.pieces))
	read.seen = nil
	for _, m := range w.seen {
		seen, _, _ := impl.ReadMark(impl.MarkText(12, m))
		read.seen = append(read.seen, seen)
	}
	if !reflect.DeepEqual(read, w) {
		t.Errorf("%+v has been read", read)
	}
}
