package tests

import (
	"slices"

	"loop.example/g01378/impl"
)

// The functions here follow the text of chapter 1 naively, so that the program is held against something else than itself.

// dice gives numbers that are the same in every run.
type dice uint64

func (d *dice) below(n int) int {
	*d = *d*6364136223846793005 + 1442695040888963407
	return int(uint64(*d) >> 33 % uint64(n))
}

func (d *dice) rules() impl.Rules {
	var r impl.Rules
	for a := range impl.Colours {
		r[a] |= 1 << a
		for b := range a {
			if d.below(3) > 0 {
				r[a] |= 1 << b
				r[b] |= 1 << a
			}
		}
	}
	return r
}

// garments takes few colours, heats and weights, so that several solutions are equally good.
func (d *dice) garments(count int) []impl.Garment {
	var list []impl.Garment
	for range count {
		need := 10 * d.below(6)
		list = append(list, impl.Garment{
			Colour: uint8(d.below(impl.Colours)),
			Need:   int8(need),
			Most:   int8(need + 10*d.below(4)),
			Weight: int16(100 * (1 + d.below(5))),
		})
	}
	return list
}

func garment(colour uint8, need, most int8, weight int16) impl.Garment {
	return impl.Garment{Colour: colour, Need: need, Most: most, Weight: weight}
}

func naiveMeet(r impl.Rules, a, b impl.Garment) bool {
	if r[a.Colour]&(1<<b.Colour) == 0 {
		return false
	}
	for heat := int8(0); heat <= impl.MaxHeat; heat++ {
		if a.Need <= heat && heat <= a.Most && b.Need <= heat && heat <= b.Most {
			return true
		}
	}
	return false
}

func naiveLoad(r impl.Rules, hold int64, list []impl.Garment) bool {
	weight := int64(0)
	for i, a := range list {
		weight += int64(a.Weight)
		for k, b := range list {
			if i != k && !naiveMeet(r, a, b) {
				return false
			}
		}
	}
	return len(list) > 0 && weight <= hold
}

func naiveApart(r impl.Rules, list []impl.Garment) bool {
	for i, a := range list {
		for _, b := range list[i+1:] {
			if naiveMeet(r, a, b) {
				return false
			}
		}
	}
	return true
}

// gather returns the garments by their numbers.
func gather(list []impl.Garment, loads []int64) map[int64][]impl.Garment {
	byNumber := map[int64][]impl.Garment{}
	for i, n := range loads {
		byNumber[n] = append(byNumber[n], list[i])
	}
	return byNumber
}

func naiveRight(r impl.Rules, hold int64, list []impl.Garment, loads []int64) bool {
	if len(list) != len(loads) {
		return false
	}
	for n, load := range gather(list, loads) {
		if n < 0 || n > impl.MaxGarments-1 || !naiveLoad(r, hold, load) {
			return false
		}
	}
	return true
}

func naiveCost(list []impl.Garment, loads []int64, each int64) int64 {
	sum := int64(0)
	for _, load := range gather(list, loads) {
		low := int8(0)
		for _, g := range load {
			low = max(low, g.Need)
		}
		sum += each + int64(low)
	}
	return sum
}

// everyLoads calls use for all lists of count numbers below numbers, in their order as lists.
func everyLoads(count, numbers int, use func(loads []int64)) {
	loads := make([]int64, count)
	for {
		use(loads)
		i := count - 1
		for i >= 0 && loads[i] == int64(numbers-1) {
			loads[i] = 0
			i--
		}
		if i < 0 {
			return
		}
		loads[i]++
	}
}

// everyIndices returns all ascending lists of indices below count, in their order as lists.
func everyIndices(count int) [][]int64 {
	var all [][]int64
	for set := range 1 << count {
		var list []int64
		for i := range count {
			if set>>i&1 != 0 {
				list = append(list, int64(i))
			}
		}
		all = append(all, list)
	}
	slices.SortFunc(all, slices.Compare)
	return all
}

func pick(list []impl.Garment, indices []int64) []impl.Garment {
	var picked []impl.Garment
	for _, i := range indices {
		picked = append(picked, list[i])
	}
	return picked
}

func weigh(list []impl.Garment) int64 {
	sum := int64(0)
	for _, g := range list {
		sum += int64(g.Weight)
	}
	return sum
}

// repeat returns a list of count equal garments.
func repeat(g impl.Garment, count int) []impl.Garment {
	list := make([]impl.Garment, count)
	for i := range list {
		list[i] = g
	}
	return list
}
