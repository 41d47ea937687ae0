package tests

import (
	"fmt"
	"slices"
	"strings"

	"loop.example/g01378/impl"
)

// The functions here follow the text of chapter 7 naively, so that the program is held against something else than itself.

// toIron returns the pieces that parts tell, as "1/10@20" for the level 1, 10 minutes and due at 20; they need not be valid.
func toIron(text string) []impl.Piece {
	var list []impl.Piece
	for part := range strings.FieldsSeq(text) {
		var p impl.Piece
		if n, _ := fmt.Sscanf(part, "%d/%d@%d", &p.Level, &p.Minutes, &p.Due); n < 3 {
			panic("no piece: " + part)
		}
		list = append(list, p)
	}
	return list
}

func iron(up, down int8) impl.Iron {
	return impl.Iron{Up: up, Down: down}
}

func toPress(level, minutes int8, due int16) impl.Piece {
	return impl.Piece{Level: level, Minutes: minutes, Due: due}
}

func manyPieces(p impl.Piece, count int) []impl.Piece {
	return slices.Repeat([]impl.Piece{p}, count)
}

// iron takes few different times, and often none, so that several orders are equally good.
func (d *dice) iron() impl.Iron {
	change := func() int8 {
		return int8([]int{0, 0, 1, 2, 5, d.below(11), d.below(61), 60}[d.below(8)])
	}
	return iron(change(), change())
}

// pieces are often equal in some ways; they are due such that some are late and some are not, or all, or none.
func (d *dice) pieces(count int) []impl.Piece {
	levels, minutes := 1+d.below(3), []int{1, 2, 3, 10, 60}[d.below(5)]
	due := []int{1, 2, 5, 1 + minutes*count, 1 + 2*minutes*count, 1001}[d.below(6)]
	var list []impl.Piece
	for range count {
		p := toPress(int8(1+d.below(levels)), int8(1+d.below(minutes)), int16(d.below(min(due, 1001))))
		if len(list) > 0 && d.below(4) == 0 {
			p = list[d.below(len(list))]
		}
		list = append(list, p)
	}
	return list
}

// indicesBelow returns so many indices, ascending.
func indicesBelow(count int) []int64 {
	list := make([]int64, count)
	for i := range list {
		list[i] = int64(i)
	}
	return list
}

// order is any order of so many indices.
func (d *dice) order(count int) []int64 {
	var order []int64
	for i := range count {
		order = slices.Insert(order, d.below(i+1), int64(i))
	}
	return order
}

func wrongPieces() []impl.Piece {
	wrong := []impl.Piece{{}, toPress(4, 61, 1001), toPress(-1, -10, -20)}
	for _, n := range []int8{0, 4, 5, -1, -2, -128, 127} {
		wrong = append(wrong, toPress(n, 10, 20))
	}
	for _, n := range []int8{0, 61, 62, -1, -10, -128, 127} {
		wrong = append(wrong, toPress(1, n, 20))
	}
	for _, n := range []int16{-1, 1001, 1002, -20, -32768, 32767} {
		wrong = append(wrong, toPress(1, 10, n))
	}
	return wrong
}

func wrongIrons() []impl.Iron {
	wrong := []impl.Iron{iron(-1, -1), iron(61, 61), iron(-1, 61)}
	for _, n := range []int8{-1, 61, 62, -60, -128, 127} {
		wrong = append(wrong, iron(n, 5), iron(2, n), iron(n, 0), iron(60, n))
	}
	return wrong
}

// wrongOrders are no orders of 3 pieces.
func wrongOrders() [][]int64 {
	return [][]int64{
		nil, {}, {0}, {0, 2}, {1, 2}, {0, 1}, // too short
		{0, 1, 2, 3}, {0, 1, 2, 0}, {0, 1, 2, 2}, {3, 2, 1, 0}, {0, 1, 2, 3, 4, 5, 6, 7}, // too long
		{0, 1, 1}, {0, 0, 1}, {2, 1, 2}, {2, 2, 2}, {0, 0, 0}, // one twice, and one that lacks
		{0, 1, 3}, {3, 1, 2}, {1, 2, 3}, {0, -1, 2}, {-1, 0, 1}, {-1, -2, -3}, {0, 1, 256 + 2}, {0, 1, 1<<32 + 2}, {0, 1, -1 << 63}, {0, 1, 1<<63 - 1}, // one that is none
	}
}

// naiveChange makes an iron hotter or cooler, level by level.
func naiveChange(x impl.Iron, from, to int64) int64 {
	minutes := int64(0)
	for ; from < to; from++ {
		minutes += int64(x.Up)
	}
	for ; from > to; from-- {
		minutes += int64(x.Down)
	}
	return minutes
}

func naiveFinish(x impl.Iron, list []impl.Piece, order []int64) []int64 {
	times := make([]int64, 0, len(order))
	level, now := int64(0), int64(0)
	for _, i := range order {
		now += naiveChange(x, level, int64(list[i].Level)) + int64(list[i].Minutes)
		level = int64(list[i].Level)
		times = append(times, now)
	}
	return times
}

// latePiece is the index of a piece that is late, and by how much.
type latePiece struct {
	i, by int64
}

// naiveLate returns all pieces that are late, by their indices.
func naiveLate(x impl.Iron, list []impl.Piece, order []int64) []latePiece {
	var late []latePiece
	times := naiveFinish(x, list, order)
	for i := range list {
		for k, n := range order {
			if n == int64(i) && times[k] > int64(list[i].Due) {
				late = append(late, latePiece{n, times[k] - int64(list[i].Due)})
			}
		}
	}
	return late
}

// What is measured of an order.
type naiveMeasure func(x impl.Iron, list []impl.Piece, order []int64) int64

func naiveTotal(x impl.Iron, list []impl.Piece, order []int64) int64 {
	last := int64(0)
	for _, time := range naiveFinish(x, list, order) {
		last = time
	}
	return last
}

func naiveLateCount(x impl.Iron, list []impl.Piece, order []int64) int64 {
	return int64(len(naiveLate(x, list, order)))
}

func naiveLateness(x impl.Iron, list []impl.Piece, order []int64) int64 {
	sum := int64(0)
	for _, p := range naiveLate(x, list, order) {
		sum += p.by
	}
	return sum
}

func naiveWait(x impl.Iron, list []impl.Piece, order []int64) int64 {
	return total(naiveFinish(x, list, order))
}

// naiveBest returns the first of all orders with the least measure, this measure, and how many orders have it.
func naiveBest(x impl.Iron, list []impl.Piece, all [][]int64, measure naiveMeasure) ([]int64, int64, int) {
	var best []int64
	least, count := int64(0), 0
	for _, order := range all {
		switch m := measure(x, list, order); {
		case count == 0 || m < least:
			best, least, count = order, m, 1
		case m == least:
			count++
		}
	}
	return best, least, count
}

// naiveSorted returns the indices of pieces by a number of each one: all with the least number first.
func naiveSorted(list []impl.Piece, number func(p impl.Piece) int) []int64 {
	var order []int64
	for n := range 1001 {
		for i, p := range list {
			if number(p) == n {
				order = append(order, int64(i))
			}
		}
	}
	return order
}

func naiveNearest(x impl.Iron, list []impl.Piece) []int64 {
	var order []int64
	for range list {
		var next []int64
		for i := range list {
			longer := append(slices.Clone(order), int64(i))
			if !slices.Contains(order, int64(i)) && (next == nil || naiveTotal(x, list, longer) < naiveTotal(x, list, next)) {
				next = longer
			}
		}
		order = next
	}
	return order
}

// naiveTwo returns the first of all sharings with which the later one of both irons is ready first, when it is, and how many
// sharings are so good. The orders are told by how many pieces they have.
func naiveTwo(x impl.Iron, list []impl.Piece, orders [][][]int64) ([]int64, int64, int) {
	var best []int64
	least, count := int64(0), 0
	everyLoads(len(list), 2, func(irons []int64) {
		var shares [2][]impl.Piece
		for i, n := range irons {
			shares[n] = append(shares[n], list[i])
		}
		greater := int64(0)
		for _, share := range shares {
			_, time, _ := naiveBest(x, share, orders[len(share)], naiveTotal)
			greater = max(greater, time)
		}
		switch {
		case count == 0 || greater < least:
			best, least, count = slices.Clone(irons), greater, 1
		case greater == least:
			count++
		}
	})
	return best, least, count
}

// ordersUpTo returns all orders of so many indices, by their number.
func ordersUpTo(most int) [][][]int64 {
	var all [][][]int64
	for count := range most + 1 {
		all = append(all, everyOrder(count))
	}
	return all
}
