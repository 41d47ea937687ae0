package tests

import (
	"slices"
	"testing"

	"loop.example/g01378/impl"
)

// deed is a function with a code: its zero values as text, and a call that tells its results as text, and the code.
type deed[A any] struct {
	name, zero string
	make       func(a A) (string, int64)
}

// gets makes calls with right arguments that have been changed: all return the code, and zero values beside an error.
func gets[A any](t *testing.T, right func() A, calls []deed[A], what string, code int64, changes ...func(a *A)) {
	t.Helper()
	for _, c := range calls {
		a := right()
		allOf(changes...)(&a)
		text, got := c.make(a)
		if got != code || code != impl.OK && text != c.zero {
			t.Errorf("%s, %s: got %s with %d, want %d", c.name, what, text, got, code)
		}
	}
}

// The functions here follow the text of chapter 4 naively, so that the program is held against something else than itself.

func sheet(wide, high, layers int16) impl.Sheet {
	return impl.Sheet{Wide: wide, High: high, Layers: layers}
}

// sheet has sides that are mostly divided often, and mostly few layers.
func (d *dice) sheet() impl.Sheet {
	side := func() int16 {
		sides := []int{1, 1296, 648, 432, 1 << d.below(11), 36 * (1 + d.below(36)), 6 * (1 + d.below(20)), 1 + d.below(40), 1 + d.below(1296)}
		return int16(sides[d.below(len(sides))])
	}
	layers := []int{1, 1, 1, 2, 3, 4, 6, 12, 144, 1 + d.below(12), 1 + d.below(144)}
	return sheet(side(), side(), int16(layers[d.below(len(layers))]))
}

func wrongSheets() []impl.Sheet {
	wrong := []impl.Sheet{{}, sheet(0, 0, 1), sheet(1297, 1297, 145), sheet(-36, -24, 1)}
	for _, n := range []int16{0, -1, 1297, 1298, -1296, -32768, 32767} {
		wrong = append(wrong, sheet(n, 24, 1), sheet(36, n, 1))
	}
	for _, n := range []int16{0, -1, 145, 146, 256 + 1, -144, -32768, 32767} {
		wrong = append(wrong, sheet(36, 24, n))
	}
	return wrong
}

// noFolds are no numbers of folds; the low bits of some would be.
func noFolds() []int64 {
	return []int64{4, 5, -1, -4, 256, 1 << 16, 1<<32 + 1, 1<<63 - 1, -1 << 63}
}

// naiveFold returns a sheet behind a fold, and the code.
func naiveFold(s impl.Sheet, fold int64) (impl.Sheet, int64) {
	side, parts := &s.Wide, int16(2)
	switch fold {
	case impl.FoHalfWide:
	case impl.FoHalfHigh:
		side = &s.High
	case impl.FoThirdWide:
		parts = 3
	case impl.FoThirdHigh:
		side, parts = &s.High, 3
	default:
		return impl.Sheet{}, impl.ErrRange
	}
	if *side/parts*parts != *side {
		return impl.Sheet{}, impl.ErrState
	}
	if s.Layers*parts > 144 {
		return impl.Sheet{}, impl.ErrLimit
	}
	*side /= parts
	s.Layers *= parts
	return s, impl.OK
}

func naiveFoldAll(s impl.Sheet, folds []int64) (impl.Sheet, int64) {
	if len(folds) > 12 {
		return impl.Sheet{}, impl.ErrLimit
	}
	code := int64(impl.OK)
	for _, fold := range folds {
		if s, code = naiveFold(s, fold); code != impl.OK {
			return impl.Sheet{}, code
		}
	}
	return s, impl.OK
}

// crease is a sheet behind some folds.
type crease struct {
	folds []int64
	s     impl.Sheet
}

// everyCrease returns a sheet behind all lists of folds that can be made, in any order: shorter ones first, and then as
// they come as lists.
func everyCrease(s impl.Sheet) []crease {
	var all []crease
	last := []crease{{[]int64{}, s}}
	for len(last) > 0 {
		all = append(all, last...)
		var longer []crease
		for _, c := range last {
			for fold := range int64(4) {
				if s, code := naiveFold(c.s, fold); code == impl.OK {
					longer = append(longer, crease{append(slices.Clone(c.folds), fold), s})
				}
			}
		}
		last = longer
	}
	return all
}

func naiveShelf(s impl.Sheet, wide, deep, layers int64) bool {
	w, h := int64(s.Wide), int64(s.High)
	return int64(s.Layers) <= layers && (w <= wide && h <= deep || h <= wide && w <= deep)
}

// naiveEdges folds a sheet of cloth layer by layer. Each layer tells which of its edges are open: left, right, upper, lower.
func naiveEdges(folds []int64) impl.Edges {
	cloth := [][4]bool{{true, true, true, true}}
	for _, fold := range folds {
		var folded [][4]bool
		for _, layer := range cloth {
			folded = append(folded, partsOf(layer, fold)...)
		}
		cloth = folded
	}
	var edges impl.Edges
	for _, layer := range cloth {
		for side, open := range layer {
			if open {
				edges[side]++
			}
		}
	}
	return edges
}

// partsOf returns the parts of a layer as they lie behind a fold: every second one has been turned over. Where a part is
// joined to another one it is not open.
func partsOf(layer [4]bool, fold int64) [][4]bool {
	left, right, upper, lower := layer[0], layer[1], layer[2], layer[3]
	switch fold {
	case impl.FoHalfWide: // the right half is turned over
		return [][4]bool{{left, false, upper, lower}, {right, false, upper, lower}}
	case impl.FoHalfHigh:
		return [][4]bool{{left, right, upper, false}, {left, right, lower, false}}
	case impl.FoThirdWide: // the right third is turned over, and the left one, and the middle one not
		return [][4]bool{{false, left, upper, lower}, {false, false, upper, lower}, {right, false, upper, lower}}
	}
	return [][4]bool{{left, right, false, upper}, {left, right, false, false}, {left, right, lower, false}}
}

// everyFolds calls use for all lists of so many folds.
func everyFolds(count int, use func(folds []int64)) {
	everyLoads(count, 4, use)
}

// anyFolds are folds of which some cannot be made.
func (d *dice) anyFolds(count int) []int64 {
	folds := make([]int64, count)
	for i := range folds {
		folds[i] = int64(d.below(4))
	}
	return folds
}

// copyOf returns a copy of a cupboard and its piles.
func copyOf(c [][]int64) [][]int64 {
	var copied [][]int64
	for _, pile := range c {
		copied = append(copied, slices.Clone(pile))
	}
	return copied
}

func sheetsOf(c [][]int64) []int64 {
	return slices.Concat(c...)
}

// cupboardWith returns a cupboard with so many sheets in each pile, from a number on.
func cupboardWith(first int64, heights ...int) [][]int64 {
	c := make([][]int64, len(heights))
	for i, height := range heights {
		for range height {
			c[i] = append(c[i], first)
			first++
		}
	}
	return c
}

// cupboard has piles that are empty, full, or as high as others, with any sheets.
func (d *dice) cupboard() [][]int64 {
	c, there := make([][]int64, 1+d.below(6)), map[int64]bool{}
	high := []int{0, 1, 2, 8, 8}[d.below(5)]
	for i := range c {
		height := []int{d.below(high + 1), d.below(high + 1), high}[d.below(3)]
		for len(c[i]) < height {
			if sheet := int64(d.below(1000)); !there[sheet] {
				there[sheet], c[i] = true, append(c[i], sheet)
			}
		}
	}
	return c
}

func wrongCupboards() [][][]int64 {
	wrong := [][][]int64{
		nil, {}, cupboardWith(0, 9), cupboardWith(0, 0, 9), cupboardWith(0, 9, 0), cupboardWith(0, 8, 8, 8, 8, 8, 9), cupboardWith(0, 10),
		make([][]int64, 7), make([][]int64, 8), cupboardWith(0, 1, 1, 1, 1, 1, 1, 1), cupboardWith(0, 1, 1, 1, 1, 1, 1, 0),
		{{1, 1}}, {{1}, {1}}, {{0, 2, 0}}, {{999}, {}, {5, 999}}, {{}, {7, 8}, {9, 7}}, {{0}, {0}, {1, 2, 3}},
		cupboardWith(993, 8), cupboardWith(-1, 2),
	}
	for _, n := range []int64{-1, 1000, 1001, -999, 1 << 16, 1<<32 + 5, 1<<63 - 1, -1 << 63} {
		wrong = append(wrong, [][]int64{{n}}, [][]int64{{1, 2, n}, {3}}, [][]int64{{1, 2}, {}, {n, 3}})
	}
	return wrong
}

// naivePile returns the first pile that is as high as can be, or as low.
func naivePile(c [][]int64, high bool) int {
	for height := range 9 {
		if high {
			height = 8 - height
		}
		for i, pile := range c {
			if len(pile) == height {
				return i
			}
		}
	}
	return -1
}

// naiveOldest returns the sheets that are taken, and the cupboard then; there have to be enough of them.
func naiveOldest(c [][]int64, takes int64) ([]int64, [][]int64) {
	rest, taken := copyOf(c), []int64{}
	for range takes {
		pile := naivePile(rest, true)
		taken = append(taken, rest[pile][0])
		rest[pile] = slices.Delete(rest[pile], 0, 1)
	}
	return taken, rest
}

// naiveLevel returns the levelled cupboard, and how many sheets have been moved.
func naiveLevel(c [][]int64) ([][]int64, int64) {
	level, moved := copyOf(c), int64(0)
	for {
		from, to := naivePile(level, true), naivePile(level, false)
		last := len(level[from]) - 1
		if last+1-len(level[to]) <= 1 {
			return level, moved
		}
		level[to] = append(level[to], level[from][last])
		level[from] = slices.Delete(level[from], last, last+1)
		moved++
	}
}

// same reports whether two cupboards have the same sheets in the same piles.
func same(a, b [][]int64) bool {
	return slices.EqualFunc(a, b, slices.Equal[[]int64])
}
