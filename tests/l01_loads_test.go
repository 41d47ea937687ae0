package tests

import (
	"fmt"
	"math"
	"slices"
	"testing"

	"loop.example/g01378/impl"
)

// pairs are the rules of the document's example: 0 alone, 1 and 2 with each other, and the others alone.
var pairs = impl.Rules{1, 6, 6, 8, 16, 32}

// mixed are the rules that all colours may be washed with each other.
var mixed = impl.Rules{63, 63, 63, 63, 63, 63}

// trio are the garments of the document's example.
var trio = []impl.Garment{{Colour: 0, Need: 60, Most: 95, Weight: 500}, {Colour: 1, Need: 30, Most: 40, Weight: 300}, {Colour: 2, Need: 0, Most: 60, Weight: 900}}

// is compares what has been got with what is wanted, both as they are printed.
func is(t *testing.T, name, want string, got ...any) {
	t.Helper()
	if text := fmt.Sprintln(got...); text != want+"\n" {
		t.Errorf("%s: got %s want %s", name, text, want)
	}
}

func TestCodeName(t *testing.T) {
	for code, name := range []string{"ok", "invalid", "range", "limit", "state", "syntax", "notfound", "budget", "proof"} {
		is(t, "name", name, impl.CodeName(int64(code)))
	}
	for _, code := range []int64{-1, 9, 256, math.MinInt64, math.MaxInt64} {
		is(t, fmt.Sprint("name of ", code), "", impl.CodeName(code))
	}
}

func TestValidRules(t *testing.T) {
	if !impl.ValidRules(pairs) || !impl.ValidRules(mixed) || impl.ValidRules(impl.Rules{}) {
		t.Error("rules, or none")
	}
	for a := range impl.Colours {
		for bit := range 8 { // one bit changed: foreign, its own, or no longer as that of the other colour
			for _, r := range []impl.Rules{pairs, mixed} {
				r[a] ^= 1 << bit
				if impl.ValidRules(r) {
					t.Errorf("valid: %v", r)
				}
			}
		}
	}
}

func TestValidGarment(t *testing.T) {
	for _, g := range []impl.Garment{garment(0, 0, 0, 1), garment(5, 95, 95, 2000), garment(3, 0, 95, 7), garment(1, 40, 40, 1999)} {
		if !impl.ValidGarment(g) {
			t.Errorf("not valid: %v", g)
		}
	}
	for _, g := range wrongGarments() {
		if impl.ValidGarment(g) {
			t.Errorf("valid: %v", g)
		}
	}
}

func wrongGarments() []impl.Garment {
	return []impl.Garment{
		{}, garment(6, 0, 0, 1), garment(255, 0, 0, 1), garment(0, -1, 0, 1), garment(0, -128, 95, 1), garment(0, 1, 0, 1),
		garment(0, 95, 94, 1), garment(0, 0, 96, 1), garment(0, 96, 96, 1), garment(0, 0, 127, 1), garment(0, 0, -1, 1),
		garment(0, 0, 0, 0), garment(0, 0, 0, -1), garment(0, 0, 0, 2001), garment(0, 0, 0, math.MaxInt16), garment(0, 0, 0, math.MinInt16),
	}
}

func TestSameGarments(t *testing.T) {
	wrong := impl.Garment{Colour: 9, Need: -1}
	if !impl.SameGarments(nil, []impl.Garment{}) || !impl.SameGarments(trio, slices.Clone(trio)) || !impl.SameGarments([]impl.Garment{wrong}, []impl.Garment{wrong}) {
		t.Error("equal lists are told different")
	}
	if impl.SameGarments(trio, trio[:2]) || impl.SameGarments(trio[:2], trio) || impl.SameGarments(nil, trio) {
		t.Error("lists of different lengths are told equal")
	}
	if impl.SameGarments(trio[:2], []impl.Garment{trio[1], trio[0]}) {
		t.Error("another order is told equal")
	}
	for _, change := range []func(g *impl.Garment){
		func(g *impl.Garment) { g.Colour++ }, func(g *impl.Garment) { g.Need++ },
		func(g *impl.Garment) { g.Most++ }, func(g *impl.Garment) { g.Weight++ },
	} {
		other := slices.Clone(trio)
		change(&other[2])
		if impl.SameGarments(trio, other) {
			t.Errorf("told equal: %v", other)
		}
	}
}

func TestMayMeet(t *testing.T) {
	g := func(colour uint8, need, most int8) impl.Garment { return garment(colour, need, most, 1) }
	for _, c := range []struct {
		a, b impl.Garment
		want bool
	}{
		{g(1, 0, 95), g(2, 0, 95), true}, {g(0, 0, 95), g(1, 0, 95), false}, {g(0, 0, 95), g(0, 0, 95), true},
		{g(1, 30, 40), g(2, 40, 95), true}, {g(1, 30, 40), g(2, 41, 95), false}, {g(1, 0, 0), g(2, 0, 0), true},
		{g(1, 95, 95), g(1, 0, 95), true}, {g(1, 95, 95), g(1, 0, 94), false}, {g(5, 20, 60), g(5, 30, 40), true},
	} {
		is(t, "meet", fmt.Sprint(c.want, " 0"), slices.Collect(results(impl.MayMeet(pairs, c.a, c.b)))...)
		is(t, "meet", fmt.Sprint(c.want, " 0"), slices.Collect(results(impl.MayMeet(pairs, c.b, c.a)))...)
	}
	d := dice(1)
	for range 2000 {
		r, two := d.rules(), d.garments(2)
		if got, code := impl.MayMeet(r, two[0], two[1]); got != naiveMeet(r, two[0], two[1]) || code != impl.OK {
			t.Fatalf("meet %v %v: %v %d", r, two, got, code)
		}
	}
}

// results gives the results of a call one by one.
func results[A, B any](a A, b B) func(yield func(any) bool) {
	return func(yield func(any) bool) { _ = yield(a) && yield(b) }
}

func TestHeatsFor(t *testing.T) {
	for _, c := range []struct{ text, want string }{
		{"", "0 95 0"},
		{"0/0-0 1\n", "0 0 0"},
		{"0/95-95 1\n", "95 95 0"},
		{"0/30-60 1\n", "30 60 0"},
		{"1/30-40 300\n2/0-60 900\n", "30 40 0"},
		{"0/30-40 1\n0/40-95 1\n", "40 40 0"}, // a single heat suits both
		{"0/41-95 1\n0/30-40 1\n", "0 0 4"},
		{"0/0-50 1\n0/20-95 1\n0/30-60 1\n", "30 50 0"},
		{"0/0-50 1\n0/20-95 1\n0/51-60 1\n", "0 0 4"},
		{"0/10-20 1\n1/15-95 1\n2/0-18 1\n3/5-30 1\n", "15 18 0"}, // colours do not count here
	} {
		list, _ := impl.ReadGarments(c.text)
		low, high, code := impl.HeatsFor(list)
		is(t, c.text, c.want, low, high, code)
	}
}

func TestHeatsSuitAll(t *testing.T) {
	d := dice(2)
	for range 2000 {
		list := d.garments(d.below(5))
		var heats []int64
		for heat := int64(0); heat <= impl.MaxHeat; heat++ {
			if !slices.ContainsFunc(list, func(g impl.Garment) bool { return heat < int64(g.Need) || heat > int64(g.Most) }) {
				heats = append(heats, heat)
			}
		}
		low, high, code := impl.HeatsFor(list)
		if len(heats) == 0 {
			is(t, "no heat", "0 0 4", low, high, code)
		} else {
			is(t, "heats", fmt.Sprint(heats[0], heats[len(heats)-1], 0), low, high, code)
		}
	}
}

func TestColourSets(t *testing.T) {
	for _, c := range []struct {
		r    impl.Rules
		want string
	}{
		{pairs, "[1 6 8 16 32] 0"},
		{mixed, "[63] 0"},
		{impl.Rules{1, 2, 4, 8, 16, 32}, "[1 2 4 8 16 32] 0"},
		{impl.Rules{3, 7, 6, 8, 16, 32}, "[3 6 8 16 32] 0"},            // 1 goes with 0 and with 2, which are apart
		{impl.Rules{35, 7, 14, 28, 56, 49}, "[3 6 12 24 33 48] 0"},     // a ring
		{impl.Rules{63, 63, 63, 63, 31, 47}, "[31 47] 0"},              // all but 4 with 5
		{impl.Rules{63, 35, 37, 41, 49, 63}, "[35 37 41 49] 0"},        // 0 and 5 go with all
		{impl.Rules{56, 56, 56, 63, 63, 63}, fmt.Sprint([]uint8{}, 1)}, // 0 not with itself
	} {
		sets, code := impl.ColourSets(c.r)
		is(t, fmt.Sprint(c.r), c.want, sets, code)
	}
}

func TestColourSetsAreAll(t *testing.T) {
	together := func(r impl.Rules, set uint8) bool {
		for a := range impl.Colours {
			for b := range impl.Colours {
				if set>>a&1 != 0 && set>>b&1 != 0 && r[a]>>b&1 == 0 {
					return false
				}
			}
		}
		return true
	}
	d := dice(3)
	for range 300 {
		r := d.rules()
		var want []uint8
		for set := uint8(0); set < 64; set++ {
			full := together(r, set)
			for c := range impl.Colours {
				full = full && (set>>c&1 != 0 || !together(r, set|1<<c))
			}
			if full {
				want = append(want, set)
			}
		}
		if sets, code := impl.ColourSets(r); !slices.Equal(sets, want) || code != impl.OK {
			t.Fatalf("%v: got %v %d, want %v", r, sets, code, want)
		}
	}
}

func TestIsLoad(t *testing.T) {
	for _, c := range []struct {
		hold int64
		text string
		want string
	}{
		{2000, "", "false 0"},
		{1, "0/0-0 1\n", "true 0"},
		{1200, "1/30-40 300\n2/0-60 900\n", "true 0"}, // exactly as heavy
		{1199, "1/30-40 300\n2/0-60 900\n", "false 0"},
		{20000, "0/30-40 300\n1/0-60 900\n", "false 0"},
		{20000, "1/30-40 300\n2/41-60 900\n", "false 0"},
		{20000, "1/30-40 300\n2/40-60 900\n", "true 0"},
		{20000, "1/10-40 300\n2/20-60 900\n1/41-50 1\n", "false 0"}, // the first and the last one alone may not meet
	} {
		list, _ := impl.ReadGarments(c.text)
		got, code := impl.IsLoad(pairs, c.hold, list)
		is(t, c.text, c.want, got, code)
	}
	eight := repeat(impl.Garment{Weight: 2000}, 8)
	for hold, want := range map[int64]string{16000: "true 0", 15999: "false 0"} {
		got, code := impl.IsLoad(mixed, hold, eight)
		is(t, "eight", want, got, code)
	}
}

func TestLoadsHaveOnlyWhatGoesTogether(t *testing.T) {
	d := dice(4)
	for range 3000 {
		r, hold, list := d.rules(), int64(100*(1+d.below(15))), d.garments(d.below(9))
		load, code := impl.IsLoad(r, hold, list)
		if load != naiveLoad(r, hold, list) || code != impl.OK {
			t.Fatalf("%v %d %v: %v %d", r, hold, list, load, code)
		}
		if low, high, suits := impl.HeatsFor(list); load && (suits != impl.OK || low > high) {
			t.Fatalf("a load without a heat: %v", list)
		}
		loads := make([]int64, len(list))
		for i := range loads {
			loads[i] = int64(d.below(3))
		}
		if right, code := impl.CheckLoads(r, hold, list, loads); right != naiveRight(r, hold, list, loads) || code != impl.OK {
			t.Fatalf("%v %d %v %v: %v %d", r, hold, list, loads, right, code)
		}
	}
}

func TestCheckLoads(t *testing.T) {
	for _, c := range []struct {
		hold  int64
		loads []int64
		want  string
	}{
		{2000, []int64{0, 1, 1}, "true 0"}, {2000, []int64{7, 3, 3}, "true 0"}, {2000, []int64{5, 7, 0}, "true 0"},
		{1200, []int64{0, 1, 1}, "true 0"}, {1199, []int64{0, 1, 1}, "false 0"}, {899, []int64{0, 1, 2}, "false 0"},
		{2000, []int64{0, 0, 1}, "false 0"}, {2000, []int64{1, 0, 1}, "false 0"}, {2000, []int64{2, 2, 2}, "false 0"},
		{2000, []int64{0, 1}, "false 0"}, {2000, []int64{0, 1, 1, 1}, "false 0"}, {2000, nil, "false 0"},
		{2000, []int64{0, 1, 8}, "false 0"}, {2000, []int64{-1, 1, 1}, "false 0"}, {2000, []int64{0, 256, 256}, "false 0"},
		{2000, []int64{math.MinInt64, 1, 1}, "false 0"}, {2000, []int64{0, math.MaxInt64, 1}, "false 0"},
	} {
		right, code := impl.CheckLoads(pairs, c.hold, trio, c.loads)
		is(t, fmt.Sprint(c.hold, c.loads), c.want, right, code)
	}
	right, code := impl.CheckLoads(pairs, 1, nil, nil)
	is(t, "no garments", "true 0", right, code)
	right, code = impl.CheckLoads(pairs, 1, nil, []int64{0})
	is(t, "no garments, but a number", "false 0", right, code)
	right, code = impl.CheckLoads(pairs, 1, repeat(impl.Garment{Weight: 1}, 8), []int64{7, 6, 5, 4, 3, 2, 1, 0})
	is(t, "eight loads", "true 0", right, code)
}

func TestGreedyLoads(t *testing.T) {
	for _, c := range []struct {
		hold int64
		text string
		want string
	}{
		{1, "", "[] 0 0"},
		{2000, "0/60-95 500\n1/30-40 300\n2/0-60 900\n", "[0 1 1] 2 0"},
		{1000, "0/60-95 500\n1/30-40 300\n2/0-60 900\n", "[0 1 2] 3 0"},
		{1000, "1/0-95 600\n1/0-95 700\n1/0-95 400\n1/0-95 300\n", "[0 1 0 1] 2 0"}, // back to the first load
		{1000, "1/0-95 300\n1/0-95 400\n1/0-95 600\n1/0-95 700\n", "[0 0 1 2] 3 0"}, // more than the fewest
		{2000, "1/0-20 1\n1/30-40 1\n1/20-30 1\n2/30-95 1\n", "[0 1 0 1] 2 0"},
	} {
		list, _ := impl.ReadGarments(c.text)
		loads, count, code := impl.GreedyLoads(pairs, c.hold, list)
		is(t, c.text, c.want, loads, count, code)
	}
	loads, count, code := impl.GreedyLoads(pairs, 2000, repeat(impl.Garment{Weight: 2000}, 8))
	is(t, "eight loads", "[0 1 2 3 4 5 6 7] 8 0", loads, count, code)
}

func TestGreedyTakesTheFirstLoad(t *testing.T) {
	d := dice(5)
	for range 2000 {
		r, hold, list := d.rules(), int64(500+100*d.below(10)), d.garments(d.below(9))
		var piles [][]impl.Garment
		var want []int64
		for _, g := range list {
			n := slices.IndexFunc(piles, func(pile []impl.Garment) bool { return naiveLoad(r, hold, append(slices.Clone(pile), g)) })
			if n < 0 {
				n = len(piles)
				piles = append(piles, nil)
			}
			piles[n] = append(piles[n], g)
			want = append(want, int64(n))
		}
		loads, count, code := impl.GreedyLoads(r, hold, list)
		if !slices.Equal(loads, want) || count != int64(len(piles)) || code != impl.OK {
			t.Fatalf("%v %d %v: got %v %d %d, want %v", r, hold, list, loads, count, code, want)
		}
	}
}

func TestFewestLoads(t *testing.T) {
	for _, c := range []struct {
		hold int64
		text string
		want string
	}{
		{1, "", "[] 0 0"},
		{2000, "0/60-95 500\n1/30-40 300\n2/0-60 900\n", "[0 1 1] 2 0"},
		{1000, "0/60-95 500\n1/30-40 300\n2/0-60 900\n", "[0 1 2] 3 0"},
		{1000, "1/0-95 300\n1/0-95 400\n1/0-95 600\n1/0-95 700\n", "[0 1 1 0] 2 0"}, // fewer than by greed
		{900, "0/0-95 900\n", "[0] 1 0"},                                            // exactly as heavy as hold
		{1000, "1/0-95 500\n1/0-95 500\n1/0-95 500\n", "[0 0 1] 2 0"},               // the first one of several
	} {
		list, _ := impl.ReadGarments(c.text)
		loads, count, code := impl.FewestLoads(pairs, c.hold, list)
		is(t, c.text, c.want, loads, count, code)
	}
	loads, count, code := impl.FewestLoads(pairs, 2000, repeat(impl.Garment{Weight: 2000}, 8))
	is(t, "eight loads", "[0 1 2 3 4 5 6 7] 8 0", loads, count, code)
}

// checkBest holds FewestLoads and CheapestLoads against all lists of numbers.
func checkBest(t *testing.T, r impl.Rules, hold, each int64, list []impl.Garment, numbers int) {
	t.Helper()
	fewest, least := int64(math.MaxInt64), int64(math.MaxInt64)
	var few, cheap []int64
	everyLoads(len(list), numbers, func(loads []int64) {
		if !naiveRight(r, hold, list, loads) {
			return
		}
		if n := int64(len(gather(list, loads))); n < fewest {
			few, fewest = slices.Clone(loads), n
		}
		if cost := naiveCost(list, loads, each); cost < least {
			cheap, least = slices.Clone(loads), cost
		}
	})
	loads, count, code := impl.FewestLoads(r, hold, list)
	if !slices.Equal(loads, few) || count != fewest || code != impl.OK {
		t.Fatalf("fewest %v %d %v: got %v %d %d, want %v %d", r, hold, list, loads, count, code, few, fewest)
	}
	loads, cost, code := impl.CheapestLoads(r, hold, list, each)
	if !slices.Equal(loads, cheap) || cost != least || code != impl.OK {
		t.Fatalf("cheapest %v %d %d %v: got %v %d %d, want %v %d", r, hold, each, list, loads, cost, code, cheap, least)
	}
	if told, code := impl.CostOf(r, hold, list, loads, each); told != cost || code != impl.OK {
		t.Fatalf("cost of the cheapest: %d %d, want %d", told, code, cost)
	}
}

func TestNoFewerAndNoneCheaper(t *testing.T) {
	d := dice(6)
	for count, runs := range []int{20, 50, 100, 100, 20} {
		for range runs {
			checkBest(t, d.rules(), int64(500+100*d.below(8)), int64(10*d.below(5)), d.garments(count), impl.MaxGarments)
		}
	}
	for range 10 { // as many numbers as garments are enough for the first ones
		checkBest(t, d.rules(), int64(500+100*d.below(8)), int64(10*d.below(5)), d.garments(6), 6)
	}
}

func TestNoFewerOfEight(t *testing.T) {
	d := dice(7)
	for range 150 {
		r, hold, list := d.rules(), int64(500+100*d.below(12)), d.garments(8)
		fewest := make([]int64, 256) // by the set of garments
		for set := 1; set < 256; set++ {
			fewest[set] = math.MaxInt32
			for part := set; part > 0; part = (part - 1) & set {
				if fewest[set&^part]+1 < fewest[set] && naiveLoad(r, hold, pickSet(list, part)) {
					fewest[set] = fewest[set&^part] + 1
				}
			}
		}
		loads, count, code := impl.FewestLoads(r, hold, list)
		if count != fewest[255] || code != impl.OK || !naiveRight(r, hold, list, loads) || len(gather(list, loads)) != int(count) {
			t.Fatalf("%v %d %v: got %v %d %d, want %d", r, hold, list, loads, count, code, fewest[255])
		}
		bound, _ := impl.LoadsBound(r, hold, list)
		_, greedy, _ := impl.GreedyLoads(r, hold, list)
		if bound > count || count > greedy {
			t.Fatalf("%v %d %v: bound %d, fewest %d, by greed %d", r, hold, list, bound, count, greedy)
		}
	}
}

func pickSet(list []impl.Garment, set int) []impl.Garment {
	var picked []impl.Garment
	for i, g := range list {
		if set>>i&1 != 0 {
			picked = append(picked, g)
		}
	}
	return picked
}

func TestCosts(t *testing.T) {
	for _, c := range []struct {
		loads []int64
		each  int64
		want  string
	}{
		{[]int64{0, 1, 1}, 10, "110 0"}, {[]int64{7, 0, 0}, 10, "110 0"}, {[]int64{0, 1, 2}, 10, "120 0"},
		{[]int64{0, 1, 1}, 0, "90 0"}, {[]int64{0, 1, 1}, 1000, "2090 0"},
		{[]int64{0, 0, 1}, 10, "0 4"}, {[]int64{0, 1}, 10, "0 4"}, {[]int64{0, 1, 8}, 10, "0 4"},
		{[]int64{0, 1, -1}, 10, "0 4"}, {nil, 10, "0 4"},
	} {
		cost, code := impl.CostOf(pairs, 2000, trio, c.loads, c.each)
		is(t, fmt.Sprint(c.loads, c.each), c.want, cost, code)
	}
	cost, code := impl.CostOf(pairs, 1, nil, nil, 10)
	is(t, "no garments", "0 0", cost, code)
	eight := repeat(impl.Garment{Need: 95, Most: 95, Weight: 2000}, 8)
	cost, code = impl.CostOf(pairs, 2000, eight, []int64{7, 6, 5, 4, 3, 2, 1, 0}, 1000)
	is(t, "eight", "8760 0", cost, code)
	d := dice(8)
	for range 2000 {
		r, hold, each, list := d.rules(), int64(500+100*d.below(10)), int64(d.below(1001)), d.garments(d.below(9))
		loads, _, _ := impl.GreedyLoads(r, hold, list)
		is(t, "cost by greed", fmt.Sprint(naiveCost(list, loads, each), 0), slices.Collect(results(impl.CostOf(r, hold, list, loads, each)))...)
	}
}

func TestCheapestLoads(t *testing.T) {
	for _, c := range []struct {
		hold, each int64
		text, want string
	}{
		{1, 10, "", "[] 0 0"},
		{2000, 10, "0/60-95 500\n1/30-40 300\n2/0-60 900\n", "[0 1 1] 110 0"},
		{1000, 0, "1/0-95 500\n1/40-95 500\n1/0-95 500\n1/40-95 500\n", "[0 1 0 1] 40 0"}, // hot ones together
		{2000, 0, "1/0-95 1\n2/0-95 1\n", "[0 0] 0 0"},                                    // the first one of several
	} {
		list, _ := impl.ReadGarments(c.text)
		loads, cost, code := impl.CheapestLoads(pairs, c.hold, list, c.each)
		is(t, c.text, c.want, loads, cost, code)
	}
}

func TestCheapestAreNotAlwaysFewest(t *testing.T) {
	r := impl.Rules{3, 7, 6, 8, 16, 32} // 1 goes with 0 and with 2
	list, _ := impl.ReadGarments("1/40-95 500\n1/40-95 500\n0/0-95 500\n2/0-95 500\n")
	for each, want := range map[int64]string{0: "[0 0 1 2] 40 0", 39: "[0 0 1 2] 157 0", 40: "[0 0 1 2] 160 0", 41: "[0 1 0 1] 162 0", 1000: "[0 1 0 1] 2080 0"} {
		loads, cost, code := impl.CheapestLoads(r, 1000, list, each)
		is(t, fmt.Sprint(each), want, loads, cost, code)
	}
	loads, count, code := impl.FewestLoads(r, 1000, list)
	is(t, "fewest", "[0 1 0 1] 2 0", loads, count, code)
}

func TestApartSet(t *testing.T) {
	for _, c := range []struct{ text, want string }{
		{"", "[] 0"},
		{"3/0-95 1\n", "[0] 0"},
		{"0/60-95 500\n1/30-40 300\n2/0-60 900\n", "[0 1] 0"}, // 0 and 2 come behind 0 and 1
		{"1/0-95 1\n1/0-95 1\n", "[0] 0"},                     // equal garments may meet
		{"1/20-30 1\n1/0-20 1\n1/21-25 1\n1/26-40 1\n", "[1 2 3] 0"},
		{"0/0-0 1\n1/0-0 1\n1/95-95 1\n0/95-95 1\n3/0-95 1\n4/0-95 1\n5/0-95 1\n5/0-95 1\n", "[0 1 2 3 4 5 6] 0"},
	} {
		list, _ := impl.ReadGarments(c.text)
		apart, code := impl.ApartSet(pairs, list)
		is(t, c.text, c.want, apart, code)
	}
}

func TestNoMoreAreApart(t *testing.T) {
	d := dice(9)
	for range 500 {
		r, list := d.rules(), d.garments(d.below(9))
		var want []int64
		for _, indices := range everyIndices(len(list)) {
			if len(indices) > len(want) && naiveApart(r, pick(list, indices)) {
				want = indices
			}
		}
		if apart, code := impl.ApartSet(r, list); !slices.Equal(apart, want) || code != impl.OK {
			t.Fatalf("%v %v: got %v %d, want %v", r, list, apart, code, want)
		}
		hold := int64(1 + d.below(2000)) // also less than what one garment weighs
		bound, code := impl.LoadsBound(r, hold, list)
		byWeight := int64(math.Ceil(float64(weigh(list)) / float64(hold)))
		is(t, "bound", fmt.Sprint(max(int64(len(want)), byWeight), 0), bound, code)
	}
}

func TestLoadsBound(t *testing.T) {
	for _, c := range []struct {
		hold int64
		list []impl.Garment
		want string
	}{
		{1, nil, "0 0"}, {1000, trio, "2 0"}, {1700, trio, "2 0"}, {20000, trio, "2 0"}, {850, trio, "2 0"},
		{849, trio, "3 0"}, {1, trio, "1700 0"}, {20000, trio[1:], "1 0"},
		{1200, trio[1:], "1 0"}, {1199, trio[1:], "2 0"},
	} {
		bound, code := impl.LoadsBound(pairs, c.hold, c.list)
		is(t, fmt.Sprint(c.hold), c.want, bound, code)
	}
}

func TestFitsWith(t *testing.T) {
	for _, c := range []struct {
		hold       int64
		load, list []impl.Garment
		want       string
	}{
		{2000, trio[:1], trio, "[0] 0"},
		{2000, trio[1:2], trio, "[1 2] 0"},
		{1200, trio[1:2], trio, "[1 2] 0"}, // exactly as heavy
		{1199, trio[1:2], trio, "[1] 0"},
		{2000, trio[1:], trio, "[1] 0"}, // 300 more, but not 900
		{2000, nil, trio, "[0 1 2] 0"},  // no garments are a load here
		{500, nil, trio, "[0 1] 0"},
		{2000, trio[1:], nil, "[] 0"},
		{2000, trio, trio, "[] 4"},
		{1199, trio[1:], trio, "[] 4"},
		{299, trio[1:2], nil, "[] 4"},
	} {
		fits, code := impl.FitsWith(pairs, c.hold, c.load, c.list)
		is(t, fmt.Sprint(c.hold, c.load), c.want, fits, code)
	}
	full := repeat(impl.Garment{Weight: 1}, 8) // with a load of eight a ninth one is a load too
	fits, code := impl.FitsWith(mixed, 9, full, full)
	is(t, "nine", "[0 1 2 3 4 5 6 7] 0", fits, code)
	fits, code = impl.FitsWith(mixed, 8, full, full)
	is(t, "nine are too heavy", "[] 0", fits, code)
}

func TestFitsWithEach(t *testing.T) {
	d := dice(10)
	for range 3000 {
		r, hold, load, list := d.rules(), int64(500+100*d.below(10)), d.garments(d.below(4)), d.garments(d.below(9))
		var want []int64
		wantCode := int64(impl.OK)
		if len(load) > 0 && !naiveLoad(r, hold, load) {
			wantCode, list = impl.ErrState, nil
		}
		for i, g := range list {
			if naiveLoad(r, hold, append(slices.Clone(load), g)) {
				want = append(want, int64(i))
			}
		}
		if fits, code := impl.FitsWith(r, hold, load, list); !slices.Equal(fits, want) || code != wantCode {
			t.Fatalf("%v %d %v %v: got %v %d, want %v %d", r, hold, load, list, fits, code, want, wantCode)
		}
	}
}

func TestHeaviestLoad(t *testing.T) {
	for _, c := range []struct {
		hold       int64
		text, want string
	}{
		{1, "", "[] 0 6"},
		{1000, "0/60-95 500\n1/30-40 300\n2/0-60 900\n", "[2] 900 0"},
		{1200, "0/60-95 500\n1/30-40 300\n2/0-60 900\n", "[1 2] 1200 0"},
		{300, "0/60-95 500\n1/30-40 300\n2/0-60 900\n", "[1] 300 0"},
		{299, "0/60-95 500\n1/30-40 300\n2/0-60 900\n", "[] 0 6"},
		{500, "1/0-9 500\n1/0-9 200\n1/0-9 300\n", "[0] 500 0"},   // the first one of several
		{500, "1/0-9 200\n1/0-9 500\n1/0-9 300\n", "[0 2] 500 0"}, // before the shorter list
	} {
		list, _ := impl.ReadGarments(c.text)
		load, weight, code := impl.HeaviestLoad(pairs, c.hold, list)
		is(t, c.text, c.want, load, weight, code)
	}
	d := dice(11)
	for range 500 {
		r, hold, list := d.rules(), int64(50+100*d.below(12)), d.garments(d.below(9))
		var want []int64
		for _, indices := range everyIndices(len(list)) {
			if load := pick(list, indices); naiveLoad(r, hold, load) && weigh(load) > weigh(pick(list, want)) {
				want = indices
			}
		}
		wantCode := int64(impl.OK)
		if want == nil {
			wantCode = impl.ErrNotFound
		}
		load, weight, code := impl.HeaviestLoad(r, hold, list)
		is(t, "heaviest", fmt.Sprint(want, weigh(pick(list, want)), wantCode), load, weight, code)
	}
}
