package tests

import (
	"fmt"
	"slices"
	"testing"

	"loop.example/g01378/impl"
)

// search is a search for an order, what of the order it tells, and a naive measure of it.
type search struct {
	name  string
	best  func(x impl.Iron, list []impl.Piece) ([]int64, int64, int64)
	tell  func(x impl.Iron, list []impl.Piece, order []int64) (int64, int64)
	naive naiveMeasure
}

// lateCount returns how many pieces are late, as LateIn tells it.
func lateCount(x impl.Iron, list []impl.Piece, order []int64) (int64, int64) {
	late, code := impl.LateIn(x, list, order)
	return int64(len(late)), code
}

var searches = []search{
	{"ShortestOrder", impl.ShortestOrder, impl.TotalTime, naiveTotal},
	{"FewestLate", impl.FewestLate, lateCount, naiveLateCount},
	{"LeastLateness", impl.LeastLateness, impl.LatenessOf, naiveLateness},
	{"LeastWait", impl.LeastWait, impl.WaitSum, naiveWait},
}

// bestOrders are pieces with the results of the four searches, as they are listed above.
var bestOrders = []struct {
	x    impl.Iron
	list string
	want [4]string
}{
	{iron(2, 5), "", [4]string{"[] 0 0", "[] 0 0", "[] 0 0", "[] 0 0"}},
	{iron(2, 5), "3/10@16", [4]string{"[0] 16 0", "[0] 0 0", "[0] 0 0", "[0] 16 0"}},
	{iron(2, 5), "3/10@15", [4]string{"[0] 16 0", "[0] 1 0", "[0] 1 0", "[0] 16 0"}},
	{iron(2, 5), exampleOfIroning, [4]string{"[0 2 1] 29 0", "[0 1 2] 1 0", "[0 1 2] 9 0", "[0 2 1] 63 0"}},
	// Equal pieces: all orders are equally good.
	{iron(2, 5), "2/4@9 2/4@9 2/4@9", [4]string{"[0 1 2] 16 0", "[0 1 2] 2 0", "[0 1 2] 10 0", "[0 1 2] 36 0"}},
	{iron(2, 5), "2/4@0 2/4@0 2/4@0 2/4@0 2/4@0 2/4@0 2/4@0 2/4@0", [4]string{"[0 1 2 3 4 5 6 7] 36 0", "[0 1 2 3 4 5 6 7] 8 0", "[0 1 2 3 4 5 6 7] 176 0", "[0 1 2 3 4 5 6 7] 176 0"}},
	// No time to become cooler: an order need not rise, but it must not rise twice over the same levels.
	{iron(2, 0), "1/1@0 3/1@0 2/1@0", [4]string{"[0 1 2] 9 0", "[0 1 2] 3 0", "[0 2 1] 18 0", "[0 2 1] 18 0"}},
	{iron(2, 0), "2/1@9 1/1@9 3/1@9", [4]string{"[0 2 1] 9 0", "[0 2 1] 0 0", "[0 2 1] 0 0", "[1 0 2] 18 0"}},
	{iron(2, 0), "2/2@0 1/4@0", [4]string{"[0 1] 10 0", "[0 1] 2 0", "[0 1] 16 0", "[0 1] 16 0"}}, // 6 and 10 in both orders
	// No time to become hotter, or none at all.
	{iron(0, 2), "3/1@9 1/1@9 2/1@9", [4]string{"[1 2 0] 3 0", "[0 1 2] 0 0", "[0 1 2] 0 0", "[1 2 0] 6 0"}},
	{iron(0, 0), "3/1@3 1/1@3 2/1@3", [4]string{"[0 1 2] 3 0", "[0 1 2] 0 0", "[0 1 2] 0 0", "[0 1 2] 6 0"}},
	// Equal levels, and other minutes.
	{iron(2, 5), "3/1@0 1/1@0 3/2@0 1/2@0", [4]string{"[1 3 0 2] 12 0", "[0 1 2 3] 4 0", "[1 3 0 2] 30 0", "[1 3 0 2] 30 0"}},
	{iron(0, 0), "1/4@0 1/2@0 1/2@0", [4]string{"[0 1 2] 8 0", "[0 1 2] 3 0", "[1 2 0] 14 0", "[1 2 0] 14 0"}},
	// All can be ready when they are due, in one order only; and then one of them is due a minute earlier.
	{iron(0, 0), "1/10@30 1/10@10 1/10@20", [4]string{"[0 1 2] 30 0", "[1 2 0] 0 0", "[1 2 0] 0 0", "[0 1 2] 60 0"}},
	{iron(0, 0), "1/10@30 1/10@9 1/10@20", [4]string{"[0 1 2] 30 0", "[0 2 1] 1 0", "[1 2 0] 1 0", "[0 1 2] 60 0"}},
	{iron(0, 0), "1/60@10 1/1@1 1/1@2", [4]string{"[0 1 2] 62 0", "[1 2 0] 1 0", "[1 2 0] 52 0", "[1 2 0] 65 0"}},
	// Only one piece can be ready in time, and it may be one of two.
	{iron(0, 0), "1/5@4 1/5@5 1/5@6", [4]string{"[0 1 2] 15 0", "[1 0 2] 2 0", "[0 1 2] 15 0", "[0 1 2] 30 0"}},
}

func TestBestOrders(t *testing.T) {
	for _, c := range bestOrders {
		for i, s := range searches {
			order, least, code := s.best(c.x, toIron(c.list))
			is(t, fmt.Sprint(s.name, c.x, c.list), c.want[i], order, least, code)
		}
	}
}

// checkSearches holds the searches of one list against all its orders, of which all are told. It returns how many searches
// have several orders that are equally good, the first of which is not that of the indices.
func checkSearches(t *testing.T, some []search, x impl.Iron, list []impl.Piece, all [][]int64) int {
	t.Helper()
	several := 0
	for _, s := range some {
		want, measure, count := naiveBest(x, list, all, s.naive)
		order, least, code := s.best(x, list)
		if !slices.Equal(order, want) || least != measure || code != impl.OK {
			t.Fatalf("%s %v %v: got %v %d %d, want %v %d", s.name, x, list, order, least, code, want, measure)
		}
		told, code := s.tell(x, list, order)
		is(t, fmt.Sprint(s.name, x, list, " is what its order has"), fmt.Sprint(least, 0), told, code)
		if count > 1 && !slices.IsSorted(want) {
			several++
		}
	}
	return several
}

// TestNoOrderTakesLessOrWaitsLess holds the searches against all orders (promise 17).
func TestNoOrderTakesLessOrWaitsLess(t *testing.T) {
	checkAllOrders(t, []search{searches[0], searches[3]}, 126)
}

// TestNoOrderHasFewerLateOrIsLessLate holds the searches against all orders (promise 18).
func TestNoOrderHasFewerLateOrIsLessLate(t *testing.T) {
	checkAllOrders(t, searches[1:3], 127)
}

func checkAllOrders(t *testing.T, some []search, seed dice) {
	t.Helper()
	orders, several := ordersUpTo(8), 0
	for _, c := range []struct{ pieces, times int }{{2, 300}, {3, 1000}, {4, 1000}, {5, 500}, {6, 300}, {7, 100}, {8, 30}} {
		for range c.times {
			several += checkSearches(t, some, seed.iron(), seed.pieces(c.pieces), orders[c.pieces])
		}
	}
	if several < 500 {
		t.Errorf("only %d times are several orders as good", several)
	}
}

// TestOrdersOfFewPieces goes through all lists of some pieces, with all irons that take little time.
func TestOrdersOfFewPieces(t *testing.T) {
	kinds, all := toIron("1/1@2 1/2@3 2/1@4 3/1@3 3/2@9"), everyOrder(4)
	for _, x := range []impl.Iron{iron(0, 0), iron(0, 1), iron(1, 0), iron(1, 1), iron(2, 1)} {
		everyLoads(4, len(kinds), func(chosen []int64) {
			var list []impl.Piece
			for _, n := range chosen {
				list = append(list, kinds[n])
			}
			checkSearches(t, searches, x, list, all)
		})
	}
}

// TestTheFirstOfGoodOrders turns lists round: the order is that which comes first, not that which is found first by levels,
// dues or minutes.
func TestTheFirstOfGoodOrders(t *testing.T) {
	d, all := dice(128), everyOrder(5)
	for range 300 {
		x, list := d.iron(), d.pieces(5)
		for _, s := range searches {
			_, least, _ := s.best(x, list)
			for _, turn := range all[:24] {
				var turned []impl.Piece
				for _, i := range turn {
					turned = append(turned, list[i])
				}
				order, again, code := s.best(x, turned)
				if again != least || code != impl.OK {
					t.Fatalf("%s %v %v: %d, but in another order of the list %d", s.name, x, turned, again, least)
				}
				for _, other := range all {
					if slices.Equal(other, order) {
						break
					}
					if s.naive(x, turned, other) <= least {
						t.Fatalf("%s %v %v: %v, but %v comes first", s.name, x, turned, order, other)
					}
				}
			}
		}
	}
}
