package tests

import (
	"fmt"
	"slices"
	"testing"

	"loop.example/g01378/impl"
)

func TestLimitsOfLinen(t *testing.T) {
	is(t, "limits", "8 4 500 60 1000", impl.MaxUses, impl.MaxKinds, impl.MaxPieces, impl.MaxDays, impl.MaxTub)
}

func TestValidStock(t *testing.T) {
	for _, k := range rightStocks() {
		if !impl.ValidStock(k) {
			t.Errorf("not valid: %s", tell(k))
		}
	}
	for _, k := range wrongStocks() {
		if impl.ValidStock(k) {
			t.Errorf("valid: %s", tell(k))
		}
	}
}

func TestValidHouse(t *testing.T) {
	right := []impl.House{
		house(0, 1, 0, ""), house(0, 1, 0, "5c8"), house(1000, 7, 60, "5c8"), house(1000, 1, 0, "5c8"), house(0, 7, 0, "5c8"), house(0, 1, 60, "5c8"),
		house(10, 2, 3, "500c8", "500r", "", "499d1 1u8"), house(10, 3, 59, "1u1", "2d2"),
	}
	for every := int8(1); every <= 7; every++ {
		right = append(right, house(10, every, 5, "5c8"))
	}
	for _, k := range rightStocks() {
		h := house(10, 2, 0, "5c8", "5c8", "5c8", "5c8")
		h.Kinds[3] = k
		right = append(right, h)
	}
	for _, h := range right {
		if !impl.ValidHouse(h) {
			t.Errorf("not valid: %s", tellHouse(h))
		}
	}
	for _, h := range wrongHouses() {
		if impl.ValidHouse(h) {
			t.Errorf("valid: %s", tellHouse(h))
		}
	}
}

// otherStocks are all stocks that differ from one in a single number.
func otherStocks(k impl.Stock) []impl.Stock {
	var others []impl.Stock
	for n := range 8 {
		clean, used, dirty := k, k, k
		clean.Clean[n]++
		used.Used[n]++
		dirty.Dirty[n]++
		others = append(others, clean, used, dirty)
	}
	k.Rags++
	return append(others, k)
}

func TestSameHouse(t *testing.T) {
	one := func() impl.House { return house(10, 2, 3, "5c8 1r", "2d1 3u4", "") }
	is(t, "equal", "true", impl.SameHouse(one(), one()))
	is(t, "no kinds", "true true true", impl.SameHouse(impl.House{}, impl.House{}), impl.SameHouse(impl.House{Kinds: []impl.Stock{}}, impl.House{}), impl.SameHouse(impl.House{}, impl.House{Kinds: []impl.Stock{}}))
	others := []impl.House{
		house(11, 2, 3, "5c8 1r", "2d1 3u4", ""), house(10, 3, 3, "5c8 1r", "2d1 3u4", ""), house(10, 2, 4, "5c8 1r", "2d1 3u4", ""),
		house(10, 2, 3, "2d1 3u4", "5c8 1r", ""), house(10, 2, 3, "5c8 1r", "2d1 3u4"), house(10, 2, 3, "5c8 1r", "2d1 3u4", "", ""), house(10, 2, 3), {},
	}
	for kind := range 3 {
		for _, k := range otherStocks(one().Kinds[kind]) {
			h := one()
			h.Kinds[kind] = k
			others = append(others, h)
		}
	}
	for _, h := range others {
		if impl.SameHouse(one(), h) || impl.SameHouse(h, one()) {
			t.Errorf("the same: %s", tellHouse(h))
		}
		if !impl.SameHouse(h, house(h.Tub, h.Every, h.Today, tellKinds(h)...)) {
			t.Errorf("not the same as itself: %s", tellHouse(h))
		}
	}
	for _, h := range wrongHouses() { // they need not be valid
		if !impl.SameHouse(h, house(h.Tub, h.Every, h.Today, tellKinds(h)...)) || impl.SameHouse(h, one()) {
			t.Errorf("wrong: %s", tellHouse(h))
		}
	}
}

func tellKinds(h impl.House) []string {
	var kinds []string
	for _, k := range h.Kinds {
		kinds = append(kinds, tell(k))
	}
	return kinds
}

func TestPiecesOf(t *testing.T) {
	for text, want := range map[string]string{
		"": "0 0", "5c8": "5 0", "500c8": "500 0", "500r": "500 0", "1c1 2c8 3u1 4u8 5d1 6d8 7r": "28 0", "498c3 1u2 1r": "500 0",
	} {
		got, code := impl.PiecesOf(stock(text))
		is(t, text, want, got, code)
	}
	for _, k := range rightStocks() {
		got, code := impl.PiecesOf(k)
		is(t, tell(k), fmt.Sprint(sum(k), 0), got, code)
	}
}

func TestNewHouse(t *testing.T) {
	for _, c := range []struct {
		counts     []int64
		tub, every int64
		want       string
	}{
		{[]int64{5}, 10, 2, "10 2 0 / 5c8"},
		{[]int64{0}, 0, 1, "0 1 0 / "},
		{[]int64{500, 500, 500, 500}, 1000, 7, "1000 7 0 / 500c8 / 500c8 / 500c8 / 500c8"},
		{[]int64{1, 0, 3}, 999, 6, "999 6 0 / 1c8 /  / 3c8"},
		{[]int64{499, 2}, 1, 3, "1 3 0 / 499c8 / 2c8"},
	} {
		h, code := impl.NewHouse(c.counts, c.tub, c.every)
		is(t, fmt.Sprint(c.counts), c.want+" 0 true", tellHouse(h), code, impl.ValidHouse(h))
	}
}

func TestExampleOfLinen(t *testing.T) {
	h, code := impl.NewHouse([]int64{5}, 10, 2)
	is(t, "new", "10 2 0 / 5c8 0", tellHouse(h), code)
	one, shorts, code := impl.DayOnce(h, []int64{2})
	is(t, "the first day", "10 2 1 / 3c8 2u7 [0] 0", tellHouse(one), shorts, code)
	two, shorts, code := impl.DayOnce(one, []int64{2})
	is(t, "the second day", "10 2 2 / 1c8 2c7 2u7 [0] 0", tellHouse(two), shorts, code)
	day, kind, code := impl.FirstShort(h, repeatDay(2, 3))
	is(t, "short", "1 0 0", day, kind, code)
	_, all, code := impl.DayAll(h, repeatDay(2, 3))
	is(t, "short", "[[0] [1]] 0", all, code)
	least, code := impl.LeastStock(0, 10, 2, repeatDay(4, 2))
	is(t, "least", "6 0", least, code)
}

func TestUseKind(t *testing.T) {
	for _, c := range []struct {
		k    string
		need int64
		want string
	}{
		{"5c8", 2, "3c8 2u7 0 0"},
		{"5c8", 0, "5c8 0 0"},
		{"5c8", 5, "5u7 0 0"},
		{"5c8", 6, "5u7 1 0"},
		{"5c8", 500, "5u7 495 0"},
		{"", 0, " 0 0"},
		{"", 500, " 500 0"},
		{"", 3, " 3 0"},
		{"500c8", 500, "500u7 0 0"},
		{"500c1", 500, "500r 0 0"},
		{"1c8 2u7", 0, "1c8 2d7 0 0"}, // used before
		{"1c8 2u7", 1, "1u7 2d7 0 0"},
		{"2u8 3u1 1d1 4r", 0, "2d8 4d1 4r 0 0"},
		{"1u8 1u7 1u6 1u5 1u4 1u3 1u2 1u1", 1, "1d8 1d7 1d6 1d5 1d4 1d3 1d2 1d1 1 0"}, // what is used is not clean
		{"5d8 2d1", 3, "5d8 2d1 3 0"},
		{"4r", 2, "4r 2 0"},
		{"2c8 3c5 4c1", 1, "1c8 3c5 4c1 1u7 0 0"}, // the most uses first
		{"2c8 3c5 4c1", 2, "3c5 4c1 2u7 0 0"},
		{"2c8 3c5 4c1", 4, "1c5 4c1 2u7 2u4 0 0"},
		{"2c8 3c5 4c1", 5, "4c1 2u7 3u4 0 0"},
		{"2c8 3c5 4c1", 6, "3c1 2u7 3u4 1r 0 0"}, // a rag at once
		{"2c8 3c5 4c1", 10, "2u7 3u4 4r 1 0"},
		{"1c8 1c7 1c6 1c5 1c4 1c3 1c2 1c1", 8, "1u7 1u6 1u5 1u4 1u3 1u2 1u1 1r 0 0"},
		{"2c2 2c1", 3, "1c1 2u1 1r 0 0"},
		{"2c1 1r", 1, "1c1 2r 0 0"},
		{"2c1 3u1 1r", 2, "3d1 3r 0 0"},
		{"2c7 2u7 2d7", 1, "1c7 1u6 4d7 0 0"},
	} {
		got, short, code := impl.UseKind(stock(c.k), c.need)
		is(t, fmt.Sprint(c.k, ", ", c.need), c.want, tell(got), short, code)
	}
}

// TestUseKindOfAllStocks tells that a kind is used as piece by piece, and that no piece is lost (promise 12).
func TestUseKindOfAllStocks(t *testing.T) {
	d := dice(80)
	for range 4000 {
		k, need := d.stock(), d.needs(1)[0]
		n := naiveOf(impl.House{Kinds: []impl.Stock{k}})
		wantShort := n.use(0, need)
		got, short, code := impl.UseKind(k, need)
		want := n.house().Kinds[0]
		if got != want || short != wantShort || code != impl.OK {
			t.Fatalf("%s, %d: got %s %d %d, want %s %d", tell(k), need, tell(got), short, code, tell(want), wantShort)
		}
		if sum(got) != sum(k) || !impl.ValidStock(got) {
			t.Fatalf("%s, %d: %d pieces, and then %d", tell(k), need, sum(k), sum(got))
		}
	}
}

func TestWashHouse(t *testing.T) {
	for _, c := range []struct {
		h    impl.House
		want string
	}{
		{house(10, 2, 0, "5d7"), "10 2 0 / 5c7 5 0"},
		{house(5, 2, 0, "5d7"), "5 2 0 / 5c7 5 0"},
		{house(4, 2, 0, "5d7"), "4 2 0 / 4c7 1d7 4 0"},
		{house(0, 2, 0, "5d7", "1d1"), "0 2 0 / 5d7 / 1d1 0 0"},
		{house(1000, 1, 60, "500d8", "500d1", "1d4"), "1000 1 60 / 500c8 / 500c1 / 1d4 1000 0"},
		{house(999, 1, 60, "500d8", "500d1", "1d4"), "999 1 60 / 500c8 / 499c1 1d1 / 1d4 999 0"},
		{house(10, 7, 3, "5c8 2u3 4r"), "10 7 3 / 5c8 2u3 4r 0 0"}, // what is used is not washed yet
		{house(3, 1, 0, "2d8 2d5 2d1"), "3 1 0 / 2c8 1c5 1d5 2d1 3 0"},
		{house(5, 1, 0, "2d8 2d5 2d1"), "5 1 0 / 2c8 2c5 1c1 1d1 5 0"},
		{house(3, 1, 0, "1d1", "2d2", "3d8"), "3 1 0 / 1c1 / 2c2 / 3d8 3 0"}, // kind by kind
		{house(4, 1, 0, "1d1", "2d2", "3d8"), "4 1 0 / 1c1 / 2c2 / 1c8 2d8 4 0"},
		{house(2, 1, 0, "", "1d3 1c3", "", "5d8"), "2 1 0 /  / 2c3 /  / 1c8 4d8 2 0"},
		{house(1000, 1, 0, "", "4r"), "1000 1 0 /  / 4r 0 0"},
		{house(8, 1, 0, "1d8 1d7 1d6 1d5 1d4 1d3 1d2 1d1"), "8 1 0 / 1c8 1c7 1c6 1c5 1c4 1c3 1c2 1c1 8 0"},
	} {
		got, washed, code := impl.WashHouse(c.h)
		is(t, tellHouse(c.h), c.want, tellHouse(got), washed, code)
	}
}

func TestWashHouseOfAllHouses(t *testing.T) {
	d := dice(81)
	for range 3000 {
		h := d.house()
		n := naiveOf(h)
		wantWashed := n.wash()
		got, washed, code := impl.WashHouse(h)
		checkHome(t, tellHouse(h), got, n.house(), fmt.Sprint(washed, code), fmt.Sprint(wantWashed, 0))
		checkSums(t, h, got)
	}
}

// checkSums tells that no piece of a kind is lost, and none is added (promise 12).
func checkSums(t *testing.T, before, behind impl.House) {
	t.Helper()
	if !impl.ValidHouse(behind) || len(behind.Kinds) != len(before.Kinds) {
		t.Fatalf("%s: %s is not valid", tellHouse(before), tellHouse(behind))
	}
	for i, k := range behind.Kinds {
		pieces, code := impl.PiecesOf(k)
		if pieces != sum(before.Kinds[i]) || pieces != sum(k) || code != impl.OK {
			t.Fatalf("%s: the kind %d of %s has not as many pieces", tellHouse(before), i, tellHouse(behind))
		}
	}
}

func TestAddPieces(t *testing.T) {
	for _, c := range []struct {
		h            impl.House
		kind, pieces int64
		want         string
	}{
		{house(10, 2, 3, "5c8 1c7"), 0, 3, "10 2 3 / 8c8 1c7 0"},
		{house(10, 2, 3, "5c8", "1r", ""), 1, 499, "10 2 3 / 5c8 / 499c8 1r /  0"},
		{house(10, 2, 3, "5c8", "1r", ""), 2, 500, "10 2 3 / 5c8 / 1r / 500c8 0"},
		{house(10, 2, 60, "499u1", "500r"), 0, 1, "10 2 60 / 1c8 499u1 / 500r 0"},
		{house(10, 2, 60, "500u1", "500r"), 0, 0, "10 2 60 / 500u1 / 500r 0"},
		{house(0, 7, 0, "", "", "", "2d2"), 3, 4, "0 7 0 /  /  /  / 4c8 2d2 0"},
		{house(0, 7, 0, "1c8"), 0, 0, "0 7 0 / 1c8 0"},
	} {
		got, code := impl.AddPieces(c.h, c.kind, c.pieces)
		is(t, fmt.Sprint(tellHouse(c.h), c.kind, c.pieces), c.want, tellHouse(got), code)
	}
}

func TestMendRags(t *testing.T) {
	for _, c := range []struct {
		h                  impl.House
		kind, pieces, uses int64
		want               string
	}{
		{house(10, 2, 3, "5r"), 0, 3, 2, "10 2 3 / 3c2 2r 0"},
		{house(10, 2, 3, "5r"), 0, 5, 8, "10 2 3 / 5c8 0"},
		{house(10, 2, 3, "5r"), 0, 0, 1, "10 2 3 / 5r 0"},
		{house(10, 2, 3, "5c2"), 0, 0, 2, "10 2 3 / 5c2 0"},
		{house(10, 2, 3, "5c2", "1c1 4r"), 1, 4, 1, "10 2 3 / 5c2 / 5c1 0"},
		{house(10, 2, 60, "5c2", "", "500r", "3r"), 2, 500, 7, "10 2 60 / 5c2 /  / 500c7 / 3r 0"},
		{house(10, 2, 60, "499c8 1r"), 0, 1, 8, "10 2 60 / 500c8 0"},
	} {
		got, code := impl.MendRags(c.h, c.kind, c.pieces, c.uses)
		is(t, fmt.Sprint(tellHouse(c.h), c.kind, c.pieces, c.uses), c.want, tellHouse(got), code)
	}
}

// TestAddingAndMendingAllHouses tells which other pieces there are then, or which error.
func TestAddingAndMendingAllHouses(t *testing.T) {
	d := dice(82)
	for range 3000 {
		h := d.house()
		kind := d.below(len(h.Kinds))
		pieces, uses := d.needs(1)[0], 1+d.below(8)
		n, want, wantCode := naiveOf(h), impl.House{}, int64(impl.ErrLimit)
		if sum(h.Kinds[kind])+pieces <= 500 {
			n.pieces = append(n.pieces, slices.Repeat([]piece{{kind, 8, 'c'}}, int(pieces))...)
			want, wantCode = n.house(), impl.OK
		}
		got, code := impl.AddPieces(h, int64(kind), pieces)
		checkHome(t, fmt.Sprint("add ", tellHouse(h), kind, pieces), got, want, fmt.Sprint(code), fmt.Sprint(wantCode))

		n, want, wantCode = naiveOf(h), impl.House{}, impl.ErrState
		if int64(h.Kinds[kind].Rags) >= pieces {
			for range pieces {
				*n.most(kind, 'r') = piece{kind, uses, 'c'}
			}
			want, wantCode = n.house(), impl.OK
		}
		got, code = impl.MendRags(h, int64(kind), pieces, int64(uses))
		checkHome(t, fmt.Sprint("mend ", tellHouse(h), kind, pieces, uses), got, want, fmt.Sprint(code), fmt.Sprint(wantCode))
		if code == impl.OK {
			checkSums(t, h, got)
		}
	}
}
