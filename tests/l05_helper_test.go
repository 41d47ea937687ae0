package tests

import (
	"fmt"
	"reflect"
	"strings"
	"testing"

	"loop.example/g01378/impl"
)

// The functions here follow the text of chapter 5 naively, piece by piece, so that the program is held against something
// else than itself.

// stock returns the stock that parts tell: "5c8" for 5 clean pieces with 8 uses left, "u" for used and "d" for dirty ones,
// and "4r" for 4 rags.
func stock(text string) impl.Stock {
	var k impl.Stock
	for part := range strings.FieldsSeq(text) {
		var count, uses int
		var place rune
		if n, _ := fmt.Sscanf(part, "%d%c%d", &count, &place, &uses); n < 2 {
			panic("no part of a stock: " + part)
		}
		switch place {
		case 'c':
			k.Clean[uses-1] = int16(count)
		case 'u':
			k.Used[uses-1] = int16(count)
		case 'd':
			k.Dirty[uses-1] = int16(count)
		default:
			k.Rags = int32(count)
		}
	}
	return k
}

// tell returns the parts of a stock: first clean ones, then used, then dirty ones, each with the most uses left first, and rags.
func tell(k impl.Stock) string {
	var parts []string
	for i, place := range [][8]int16{k.Clean, k.Used, k.Dirty} {
		for n := 7; n >= 0; n-- {
			if place[n] != 0 {
				parts = append(parts, fmt.Sprintf("%d%c%d", place[n], "cud"[i], n+1))
			}
		}
	}
	if k.Rags != 0 {
		parts = append(parts, fmt.Sprintf("%dr", k.Rags))
	}
	return strings.Join(parts, " ")
}

func house(tub int16, every int8, today int16, kinds ...string) impl.House {
	h := impl.House{Tub: tub, Every: every, Today: today}
	for _, text := range kinds {
		h.Kinds = append(h.Kinds, stock(text))
	}
	return h
}

// tellHouse returns the tub, the days between washing days, today, and the parts of all kinds.
func tellHouse(h impl.House) string {
	text := fmt.Sprint(h.Tub, h.Every, h.Today)
	for _, k := range h.Kinds {
		text += " / " + tell(k)
	}
	return text
}

// newNaive returns a new house without looking at its numbers.
func newNaive(tub, every int64, counts ...int64) impl.House {
	h := impl.House{Tub: int16(tub), Every: int8(every)}
	for _, count := range counts {
		h.Kinds = append(h.Kinds, impl.Stock{Clean: [8]int16{7: int16(count)}})
	}
	return h
}

// sum returns how many pieces a stock has.
func sum(k impl.Stock) int64 {
	pieces := int64(k.Rags)
	for n := range 8 {
		pieces += int64(k.Clean[n]) + int64(k.Used[n]) + int64(k.Dirty[n])
	}
	return pieces
}

// piece is one piece of linen; as place it has 'c', 'u' or 'd', or 'r' if it is a rag.
type piece struct {
	kind, uses int
	place      rune
}

// naiveHouse tells each piece alone.
type naiveHouse struct {
	kinds, tub, every, today int
	pieces                   []piece
}

func naiveOf(h impl.House) naiveHouse {
	n := naiveHouse{kinds: len(h.Kinds), tub: int(h.Tub), every: int(h.Every), today: int(h.Today)}
	add := func(kind, uses int, place rune, count int) {
		for range count {
			n.pieces = append(n.pieces, piece{kind, uses, place})
		}
	}
	for kind, k := range h.Kinds {
		for i := range 8 {
			add(kind, i+1, 'c', int(k.Clean[i]))
			add(kind, i+1, 'u', int(k.Used[i]))
			add(kind, i+1, 'd', int(k.Dirty[i]))
		}
		add(kind, 0, 'r', int(k.Rags))
	}
	return n
}

func (n naiveHouse) house() impl.House {
	h := impl.House{Kinds: make([]impl.Stock, n.kinds), Tub: int16(n.tub), Every: int8(n.every), Today: int16(n.today)}
	for _, p := range n.pieces {
		k := &h.Kinds[p.kind]
		switch p.place {
		case 'c':
			k.Clean[p.uses-1]++
		case 'u':
			k.Used[p.uses-1]++
		case 'd':
			k.Dirty[p.uses-1]++
		case 'r':
			k.Rags++
		}
	}
	return h
}

// most returns the piece of a kind at a place with the most uses left, or nil if there is none.
func (n naiveHouse) most(kind int, place rune) *piece {
	var best *piece
	for i := range n.pieces {
		p := &n.pieces[i]
		if p.kind == kind && p.place == place && (best == nil || p.uses > best.uses) {
			best = p
		}
	}
	return best
}

// use uses a kind for a need, and returns by how many pieces it is short.
func (n naiveHouse) use(kind int, need int64) int64 {
	for i, p := range n.pieces {
		if p.kind == kind && p.place == 'u' {
			n.pieces[i].place = 'd'
		}
	}
	short := int64(0)
	for range need {
		p := n.most(kind, 'c')
		if p == nil {
			short++
			continue
		}
		p.uses--
		p.place = 'u'
		if p.uses == 0 {
			p.place = 'r'
		}
	}
	return short
}

// wash washes the house, and returns how many pieces have been washed.
func (n naiveHouse) wash() int64 {
	washed := 0
	for kind := 0; kind < n.kinds && washed < n.tub; {
		if p := n.most(kind, 'd'); p != nil {
			p.place = 'c'
			washed++
		} else {
			kind++
		}
	}
	return int64(washed)
}

// live goes through a day, and returns by how many pieces each kind was short, and the code; beside an error nothing is done.
func (n *naiveHouse) live(needs []int64) ([]int64, int64) {
	if len(needs) != n.kinds {
		return nil, impl.ErrRange
	}
	for _, need := range needs {
		if need < 0 || need > 500 {
			return nil, impl.ErrRange
		}
	}
	if n.today == 60 {
		return nil, impl.ErrState
	}
	var shorts []int64
	for kind, need := range needs {
		shorts = append(shorts, n.use(kind, need))
	}
	for every := n.every; every <= n.today+1; every += n.every {
		if every == n.today+1 {
			n.wash()
		}
	}
	n.today++
	return shorts, impl.OK
}

// naiveDays goes through several days.
func naiveDays(h impl.House, days [][]int64) (impl.House, [][]int64, int64) {
	if len(days) > 60 {
		return impl.House{}, nil, impl.ErrLimit
	}
	n := naiveOf(h)
	var all [][]int64
	for _, needs := range days {
		shorts, code := n.live(needs)
		if code != impl.OK {
			return impl.House{}, nil, code
		}
		all = append(all, shorts)
	}
	return n.house(), all, impl.OK
}

// naiveShort returns the first day, and the first kind, that is short, and whether there is one.
func naiveShort(shorts [][]int64) (int64, int64, bool) {
	for day, kinds := range shorts {
		for kind, short := range kinds {
			if short != 0 {
				return int64(day), int64(kind), true
			}
		}
	}
	return 0, 0, false
}

// sameHome reports whether two houses are equal, without the program's own function.
func sameHome(a, b impl.House) bool {
	return len(a.Kinds) == 0 && len(b.Kinds) == 0 && a.Tub == b.Tub && a.Every == b.Every && a.Today == b.Today || reflect.DeepEqual(a, b)
}

// checkHome compares a house, and further results with their texts.
func checkHome(t *testing.T, name string, got, want impl.House, texts ...string) {
	t.Helper()
	if !sameHome(got, want) {
		t.Fatalf("%s: got %s, want %s", name, tellHouse(got), tellHouse(want))
	}
	for i := 0; i+1 < len(texts); i += 2 {
		if texts[i] != texts[i+1] {
			t.Fatalf("%s: got %s, want %s", name, texts[i], texts[i+1])
		}
	}
}

// stock has mostly few pieces; some have none, and some as many as can be. They lie at some of the places only.
func (d *dice) stock() impl.Stock {
	var k impl.Stock
	pieces := []int{0, d.below(6), d.below(20), d.below(20), d.below(100), 500}[d.below(6)]
	places, uses := 1+d.below(15), []int{1, 2, 8, 8}[d.below(4)]
	for pieces > 0 {
		count := min(1+d.below(1+pieces/4), pieces)
		at := d.below(4)
		if places>>at&1 == 0 {
			continue
		}
		pieces -= count
		switch left := d.below(uses); at {
		case 0:
			k.Clean[left] += int16(count)
		case 1:
			k.Used[left] += int16(count)
		case 2:
			k.Dirty[left] += int16(count)
		case 3:
			k.Rags += int32(count)
		}
	}
	return k
}

// house has a tub that is mostly less than what is dirty, and is often early.
func (d *dice) house() impl.House {
	h := impl.House{Every: int8(1 + d.below(7))}
	h.Tub = int16([]int{0, d.below(5), d.below(20), d.below(100), d.below(1001), 1000}[d.below(6)])
	h.Today = int16([]int{0, d.below(7), d.below(61), 60 - d.below(6)}[d.below(4)])
	for range 1 + d.below(4) {
		h.Kinds = append(h.Kinds, d.stock())
	}
	return h
}

// needs are few pieces of each kind, none, or now and then very many.
func (d *dice) needs(kinds int) []int64 {
	needs := make([]int64, kinds)
	for i := range needs {
		needs[i] = int64([]int{0, d.below(4), d.below(10), d.below(10), d.below(40), d.below(501)}[d.below(6)])
	}
	return needs
}

func (d *dice) days(kinds, count int) [][]int64 {
	days := make([][]int64, count)
	for i := range days {
		days[i] = d.needs(kinds)
	}
	return days
}

// repeatDay returns so many days with the same needs, each one told by a list of its own.
func repeatDay(count int, needs ...int64) [][]int64 {
	days := make([][]int64, count)
	for i := range days {
		days[i] = append([]int64{}, needs...)
	}
	return days
}

// wrongStocks have too many pieces in all, or a negative number.
func wrongStocks() []impl.Stock {
	wrong := []impl.Stock{
		stock("501r"), stock("501c8"), stock("500c8 1r"), stock("500d1 1u8"), stock("250c1 250c8 1u4"), stock("499c8 1u1 1d5"), stock("400r 101c3"),
		stock("-1r"), stock("5c8 -1r"), stock("501c8 -1r"), stock("-2147483648r"), stock("2147483647r"), stock("65536r"), stock("2147483647r -32768c1"),
		stock("500r 500c8 -500u1"), stock("1c1 -1c2"),
	}
	for n := range 8 {
		for _, count := range []int16{-1, 501, -32768, 32767} {
			var clean, used, dirty impl.Stock
			clean.Clean[n], used.Used[n], dirty.Dirty[n] = count, count, count
			wrong = append(wrong, clean, used, dirty)
		}
	}
	var many impl.Stock
	for n := range 8 {
		many.Clean[n], many.Used[n], many.Dirty[n] = 21, 21, 21 // 504
	}
	return append(wrong, many)
}

func rightStocks() []impl.Stock {
	right := []impl.Stock{{}, stock("500r"), stock("500c8"), stock("499c8 1r"), stock("250c1 250d8"), stock("1c1 1u1 1d1 1r")}
	for n := range 8 {
		var clean, used, dirty impl.Stock
		clean.Clean[n], used.Used[n], dirty.Dirty[n] = 500, 500, 500
		right = append(right, clean, used, dirty)
	}
	var many impl.Stock
	for n := range 8 {
		many.Clean[n], many.Used[n], many.Dirty[n] = 20, 20, 20
	}
	many.Rags = 20
	return append(right, many)
}

func wrongHouses() []impl.House {
	five := []string{"1c8", "1c8", "1c8", "1c8", "1c8"}
	wrong := []impl.House{{}, {Every: 1}, house(10, 2, 0), {Kinds: []impl.Stock{}, Tub: 10, Every: 2}, {Kinds: make([]impl.Stock, 1)}, house(10, 2, 0, five...), house(0, 1, 0, "", "", "", "", "", "")}
	for _, n := range []int16{-1, 1001, -32768, 32767, 1002} {
		wrong = append(wrong, house(n, 2, 0, "5c8"))
	}
	for _, n := range []int8{0, 8, -1, -128, 127, 9} {
		wrong = append(wrong, house(10, n, 0, "5c8"))
	}
	for _, n := range []int16{-1, 61, -32768, 32767, 256} {
		wrong = append(wrong, house(10, 2, n, "5c8"))
	}
	for _, k := range wrongStocks() {
		for at := range 4 {
			h := house(10, 2, 0, "5c8", "5c8", "5c8", "5c8")
			h.Kinds[at] = k
			wrong = append(wrong, h)
		}
	}
	return wrong
}
