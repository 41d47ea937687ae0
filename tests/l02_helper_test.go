package tests

import (
	"slices"

	"loop.example/g01378/impl"
)

// The functions here follow the text of chapter 2 naively, so that the program is held against something else than itself.

func cloth(wide, heavy int16) impl.Cloth {
	return impl.Cloth{Wide: wide, Heavy: heavy}
}

func line(long, most int16) impl.Line {
	return impl.Line{Long: long, Most: most}
}

// threeCloths are the cloths of the document's example, on the line of which they sag by 64.
func threeCloths() []impl.Cloth {
	return []impl.Cloth{cloth(50, 40), cloth(30, 100), cloth(60, 60)}
}

func manyCloths(c impl.Cloth, count int) []impl.Cloth {
	return slices.Repeat([]impl.Cloth{c}, count)
}

// cloths takes few widths and weights, so that several orders are equally good.
func (d *dice) cloths(count int) []impl.Cloth {
	var list []impl.Cloth
	for range count {
		list = append(list, cloth(int16(4+13*d.below(5)), int16(20*(1+d.below(6)))))
	}
	return list
}

func wrongCloths() []impl.Cloth {
	return []impl.Cloth{
		{}, cloth(3, 1), cloth(201, 1), cloth(0, 1), cloth(-4, 1), cloth(-32768, 1), cloth(32767, 1),
		cloth(4, 0), cloth(4, -1), cloth(4, 501), cloth(4, -32768), cloth(4, 32767), cloth(260, 1), cloth(4, 257+256),
	}
}

func wrongLines() []impl.Line {
	return []impl.Line{
		{}, line(3, 100), line(2001, 100), line(0, 100), line(-4, 100), line(-32768, 100), line(32767, 100),
		line(100, 0), line(100, -1), line(100, 2001), line(100, -32768), line(100, 32767),
	}
}

func naivePlaces(list []impl.Cloth) []int64 {
	var places []int64
	for i, c := range list {
		place := int64(0)
		if i > 0 {
			place = places[i-1] + int64(list[i-1].Wide) + 1
			if c.Heavy+list[i-1].Heavy <= 120 {
				place -= 3
			}
		}
		places = append(places, place)
	}
	return places
}

func naiveWidth(list []impl.Cloth) int64 {
	if len(list) == 0 {
		return 0
	}
	last := len(list) - 1
	return naivePlaces(list)[last] + int64(list[last].Wide)
}

func naivePegs(list []impl.Cloth) int64 {
	pegs := int64(2 * len(list))
	for i := range list {
		if i > 0 && list[i].Heavy+list[i-1].Heavy <= 120 {
			pegs--
		}
	}
	return pegs
}

func naiveFits(l impl.Line, list []impl.Cloth) bool {
	heavy := int64(0)
	for _, c := range list {
		heavy += int64(c.Heavy)
	}
	return naiveWidth(list) <= int64(l.Long) && heavy <= int64(l.Most)
}

func naiveSag(l impl.Line, list []impl.Cloth) int64 {
	sum := int64(0)
	for i, place := range naivePlaces(list) {
		d := 2*place + int64(list[i].Wide)
		if other := 2*int64(l.Long) - d; other < d {
			d = other
		}
		sum += int64(list[i].Heavy) * d / (2 * int64(l.Long))
	}
	return sum
}

// everyOrder returns all orders of count indices, as they come as lists.
func everyOrder(count int) [][]int64 {
	all := [][]int64{nil}
	for i := range count {
		var longer [][]int64
		for _, order := range all {
			for at := range len(order) + 1 {
				longer = append(longer, slices.Insert(slices.Clone(order), at, int64(i)))
			}
		}
		all = longer
	}
	slices.SortFunc(all, slices.Compare)
	return all
}

func reorder(list []impl.Cloth, order []int64) []impl.Cloth {
	var turned []impl.Cloth
	for _, i := range order {
		turned = append(turned, list[i])
	}
	return turned
}

// naiveLeast returns the first of all orders that may be taken with the least measure, and whether there is one.
func naiveLeast(list []impl.Cloth, all [][]int64, may func([]impl.Cloth) bool, measure func([]impl.Cloth) int64) ([]int64, int64, bool) {
	var best []int64
	least, found := int64(0), false
	for _, order := range all {
		turned := reorder(list, order)
		if m := measure(turned); may(turned) && (!found || m < least) {
			best, least, found = order, m, true
		}
	}
	return best, least, found
}

// rowsOf returns the cloths by the numbers of their lines.
func rowsOf(list []impl.Cloth, lines []int64) map[int64][]impl.Cloth {
	rows := map[int64][]impl.Cloth{}
	for i, n := range lines {
		rows[n] = append(rows[n], list[i])
	}
	return rows
}

func naiveRightLines(l impl.Line, list []impl.Cloth, lines []int64) bool {
	if len(list) != len(lines) {
		return false
	}
	for n, row := range rowsOf(list, lines) {
		if n < 0 || n > 6 || !naiveFits(l, row) {
			return false
		}
	}
	return true
}

// naiveFewestLines makes the tries that the document tells for FewestLines, and counts them.
func naiveFewestLines(l impl.Line, list []impl.Cloth) ([]int64, int64) {
	tries := int64(0)
	for number := int64(0); ; number++ {
		var try func(lines []int64) []int64
		try = func(lines []int64) []int64 {
			i := len(lines)
			if i == len(list) {
				return lines
			}
			greatest := int64(-1)
			for _, n := range lines {
				greatest = max(greatest, n)
			}
			for n := int64(0); n <= greatest+1 && n < number; n++ {
				longer := append(slices.Clone(lines), n)
				if !naiveFits(l, rowsOf(list, longer)[n]) {
					continue
				}
				tries++
				if all := try(longer); all != nil {
					return all
				}
			}
			return nil
		}
		if lines := try([]int64{}); lines != nil {
			return lines, tries
		}
	}
}
