package tests

import (
	"fmt"
	"slices"
	"strings"
	"testing"

	"loop.example/g01378/impl"
)

func TestExampleOfMarks(t *testing.T) {
	m, stitches, code := impl.ReadMark("+.+.")
	is(t, "the mark", "5 4 0", m, stitches, code)
	class, code := impl.ClassOf(4, m)
	is(t, "its class", "4 0", class, code)
	seen, code := impl.LostFrom(4, m)
	is(t, "seen", "[+.+. ..+. +...] 0", stitchedAll(4, seen), code)
	list, code := impl.ClassMarks(4, 0)
	is(t, "the class 0", "[.... .++. +..+ ++++] 0", stitchedAll(4, list), code)
	best, most, code := impl.BestClass(4)
	is(t, "the best class", "0 4 0", best, most, code)
	mended, code := impl.MendStitch(4, 0, mark("...+"))
	is(t, "mended", "+..+ 0", impl.MarkText(4, mended), code)
	taken, code := impl.GreedyMarks(4, 3)
	is(t, "by greed", "[++++ ..++ ++..] 0", stitchedAll(4, taken), code)
}

func TestLimitsOfMarks(t *testing.T) {
	is(t, "limits", "12 40 40", impl.MaxStitches, impl.MaxMarks, impl.MaxOwners)
}

func TestValidMark(t *testing.T) {
	for stitches := int64(1); stitches <= 12; stitches++ {
		for m := range 1 << 16 {
			if want := m < 1<<stitches; impl.ValidMark(stitches, impl.Mark(m)) != want {
				t.Fatalf("%d of %d stitches: want %t", m, stitches, want)
			}
		}
	}
	for _, stitches := range wrongStitches() {
		for _, m := range []impl.Mark{0, 1, 2, 1 << 12, 1<<16 - 1} {
			is(t, fmt.Sprint(m, " of ", stitches), "false", impl.ValidMark(stitches, m))
		}
	}
}

func TestStitchesIn(t *testing.T) {
	is(t, "some", "0 1 2 1 15 16", impl.StitchesIn(0), impl.StitchesIn(1), impl.StitchesIn(5), impl.StitchesIn(1<<15), impl.StitchesIn(1<<15-1), impl.StitchesIn(1<<16-1))
	for m := range 1 << 16 {
		want := strings.Count(stitched(16, impl.Mark(m)), "+")
		if got := impl.StitchesIn(impl.Mark(m)); got != int64(want) {
			t.Fatalf("%d: got %d, want %d", m, got, want)
		}
	}
}

func TestLostFrom(t *testing.T) {
	for _, c := range []struct{ text, want string }{
		{".", "[.] 0"},
		{"+", "[+ .] 0"},
		{"....", "[....] 0"},
		{"...+", "[...+ ....] 0"},
		{"++++", "[++++ .+++ +.++ ++.+ +++.] 0"},
		{".+.+.+", "[.+.+.+ ...+.+ .+...+ .+.+..] 0"},
		{"............", "[............] 0"},
		{"+..........+", "[+..........+ ...........+ +...........] 0"},
	} {
		seen, code := impl.LostFrom(int64(len(c.text)), mark(c.text))
		is(t, c.text, c.want, stitchedAll(len(c.text), seen), code)
	}
	seen, code := impl.LostFrom(12, 4095)
	is(t, "all of 12", "[4095 4094 4093 4091 4087 4079 4063 4031 3967 3839 3583 3071 2047] 0", seen, code)
}

func TestAllThatIsLost(t *testing.T) {
	for stitches := 1; stitches <= 12; stitches++ {
		for m, text := range everyMark(stitches) {
			seen, code := impl.LostFrom(int64(stitches), impl.Mark(m))
			is(t, text, fmt.Sprint(naiveSeen(text), 0), stitchedAll(stitches, seen), code)
		}
	}
}

// twoMarks are pairs of marks, and whether they are told apart.
var twoMarks = []struct {
	texts string
	apart bool
}{
	{"+.+. +.+.", false}, // the same twice
	{".... ....", false},
	{"++++ ++++", false},
	{"+.+. +...", false}, // one has one stitch more
	{"+... +.+.", false},
	{".... ...+", false},
	{"++++ +++.", false},
	{"+.+. ++..", false}, // each one loses another stitch
	{"+... ...+", false},
	{"+++. .+++", false},
	{"+.+. ....", true}, // one has two stitches more
	{".... +.+.", true},
	{"++++ ..++", true},
	{"++++ .++.", true},
	{"++.. ..++", true}, // two each
	{"++.. .+++", true}, // one, and two
	{"+... .++.", true},
	{"++++ ....", true},
	{". +", false},
	{"++ ..", true},
	{"+.......... ..........+", false},
	{"+...........  ...........+", false},
	{"++.......... ............", true},
	{"++++++++++++ ++++++++++..", true},
	{"++++++++++++ +++++++++++.", false},
}

func TestTwoMarks(t *testing.T) {
	for _, c := range twoMarks {
		list := marks(c.texts)
		stitches := int64(len(strings.Fields(c.texts)[0]))
		got, code := impl.CheckMarks(stitches, list)
		is(t, c.texts, fmt.Sprint(c.apart, 0), got, code)
		first, second, code := impl.FirstClash(stitches, list)
		if c.apart {
			is(t, c.texts, "0 0 6", first, second, code)
		} else {
			is(t, c.texts, "0 1 0", first, second, code)
		}
	}
}

func TestListsThatAreToldApart(t *testing.T) {
	for _, c := range []struct {
		texts string
		want  string
	}{
		{"", "true 0 0 0 6"},
		{"+.+.", "true 0 0 0 6"},
		{"....", "true 0 0 0 6"},
		{".... +..+ .++. ++++", "true 0 0 0 6"},
		{"++++ ..++ ++..", "true 0 0 0 6"},
		{"++++ ++.. ..+.", "true 0 0 0 6"},
		{"++++ ++.. .+..", "false 0 1 2 0"},
		{"++++ ++.. .+.. .+++", "false 0 0 3 0"},                // 0 and 3 come ahead of 1 and 2
		{"++++ ++.. ..++ ..+. ++..", "false 0 1 4 0"},           // 1 and 4 come ahead of 2 and 3
		{"++++ +++. .... ++++", "false 0 0 1 0"},                // 0 and 1 come ahead of 0 and 3
		{"++.. ..++ .... ++++ ++++", "false 0 3 4 0"},           // the last two
		{".... ++.. .... ....", "false 0 0 2 0"},                // places, not marks
		{".... .... .... ....", "false 0 0 1 0"},                // all are the same
		{"..++ ++.. .... ++++ .+..", "false 0 1 4 0"},           // behind 1 is the first one of several
		{"..++ ++.. .... ++++ +++. .++.", "false 0 0 5 0"},      // each one loses another stitch
		{"++.. .... ..++ ++++ ...+ ..+.", "false 0 1 4 0"},      // 1 is of 4 and of 5
		{"++.. .... ..++ ++++ +++. ..+. ++.+", "false 0 0 4 0"}, // 0 is of 4 and of 6
	} {
		list := marks(c.texts)
		apart, code := impl.CheckMarks(4, list)
		first, second, codeOfClash := impl.FirstClash(4, list)
		is(t, c.texts, c.want, apart, code, first, second, codeOfClash)
	}
}

// TestAllPairsOfMarks looks at each mark with each one, as lists, and how far they are apart.
func TestAllPairsOfMarks(t *testing.T) {
	for stitches := 1; stitches <= 7; stitches++ {
		all := everyMark(stitches)
		for a, one := range all {
			for b, other := range all {
				clash := naiveClash(one, other)
				list := []impl.Mark{impl.Mark(a), impl.Mark(b)}
				apart, code := impl.CheckMarks(int64(stitches), list)
				by, codeBy := impl.ApartBy(int64(stitches), list[0], list[1])
				least, codeLeast := impl.LeastApart(int64(stitches), list)
				differ := naiveApartBy(one, other)
				if apart == clash || by != differ || least != differ || code != 0 || codeBy != 0 || codeLeast != 0 {
					t.Fatalf("%s and %s: apart %t %d, by %d %d, least %d %d", one, other, apart, code, by, codeBy, least, codeLeast)
				}
			}
		}
	}
}

func TestListsOfMarks(t *testing.T) {
	d := dice(100)
	apart := 0
	for range 4000 {
		stitches := d.stitches()
		list := d.marks(stitches, d.below(14))
		texts := stitchedAll(stitches, list)
		first, second, clash := naiveFirstClash(texts)
		code := impl.OK
		if !clash {
			code = impl.ErrNotFound
			apart++
		}
		got, codeOfCheck := impl.CheckMarks(int64(stitches), list)
		is(t, fmt.Sprint(texts), fmt.Sprint(!clash, 0), got, codeOfCheck)
		i, k, codeOfClash := impl.FirstClash(int64(stitches), list)
		is(t, fmt.Sprint(texts), fmt.Sprint(first, second, code), i, k, codeOfClash)
	}
	if apart < 500 || apart > 3500 {
		t.Errorf("%d of 4000 lists are told apart", apart)
	}
}

func TestReadStitches(t *testing.T) {
	class := ".... +..+ .++. ++++"
	for _, c := range []struct{ texts, seen, want string }{
		{class, "....", "0 0"}, // itself
		{class, "+..+", "1 0"},
		{class, "++++", "3 0"},
		{class, "...+", "1 0"}, // one stitch lost
		{class, "+...", "1 0"},
		{class, ".+..", "2 0"},
		{class, "..+.", "2 0"},
		{class, ".+++", "3 0"},
		{class, "+++.", "3 0"},
		{class, "++..", "0 6"}, // two lost of the last one, and one too many for the others
		{class, "..++", "0 6"},
		{class, "+.+.", "0 6"},
		{"++++ ++..", "..++", "0 6"}, // two lost
		{"++++ ++..", "+.++", "0 0"},
		{"++++ ++..", ".+..", "1 0"},
		{"++++ ++..", "....", "0 6"},
		{"++.. ....", "+++.", "0 6"}, // one too many
		{"....", "+...", "0 6"},
		{"....", "....", "0 0"},
		{"", "....", "0 6"}, // no marks
		{"", "++++", "0 6"},
		{"+... ++..", "++..", "0 4"}, // not told apart, whatever is seen
		{"+... ++..", "++++", "0 4"},
		{"++++ ++.. ++..", "++++", "0 4"},
		{"++++ .... ....", "++..", "0 4"},
	} {
		place, code := impl.ReadStitches(4, marks(c.texts), mark(c.seen))
		is(t, c.texts+", "+c.seen, c.want, place, code)
	}
}

// TestAllThatIsSeenIsRead reads all that can be seen, and all that cannot, of lists that are told apart (promise 14).
func TestAllThatIsSeenIsRead(t *testing.T) {
	d := dice(101)
	for range 300 {
		stitches := d.stitches()
		list := d.marks(stitches, d.below(41))
		texts := stitchedAll(stitches, list)
		_, _, clash := naiveFirstClash(texts)
		for i, text := range texts {
			for _, seen := range naiveSeen(text) {
				place, code := impl.ReadStitches(int64(stitches), list, mark(seen))
				if clash {
					is(t, fmt.Sprint(texts, seen), "0 4", place, code)
				} else {
					is(t, fmt.Sprint(texts, seen), fmt.Sprint(i, 0), place, code)
				}
			}
		}
		for range 50 {
			seen := d.mark(stitches)
			want := "0 6"
			if places := naiveRead(texts, stitched(stitches, seen)); clash {
				want = "0 4"
			} else if len(places) > 0 {
				want = fmt.Sprint(places[0], 0)
			}
			place, code := impl.ReadStitches(int64(stitches), list, seen)
			is(t, fmt.Sprint(texts, seen), want, place, code)
		}
	}
}

func TestGreedyMarks(t *testing.T) {
	for _, c := range []struct {
		stitches, most int64
		want           string
	}{
		{1, 0, "[] 0"},
		{1, 1, "[+] 0"},
		{1, 2, "[+] 0"}, // as many as there are
		{1, 40, "[+] 0"},
		{2, 1, "[++] 0"},
		{2, 2, "[++ ..] 0"},
		{2, 3, "[++ ..] 0"},
		{4, 0, "[] 0"},
		{4, 1, "[++++] 0"},
		{4, 2, "[++++ ..++] 0"},
		{4, 3, "[++++ ..++ ++..] 0"},
		{4, 4, "[++++ ..++ ++.. ....] 0"},
		{4, 5, "[++++ ..++ ++.. ....] 0"},
		{12, 0, "[] 0"},
		{12, 1, "[++++++++++++] 0"},
		{12, 2, "[++++++++++++ ..++++++++++] 0"},
	} {
		list, code := impl.GreedyMarks(c.stitches, c.most)
		is(t, fmt.Sprint(c.stitches, c.most), c.want, stitchedAll(int(c.stitches), list), code)
	}
	for stitches := 9; stitches <= 12; stitches++ {
		list, code := impl.GreedyMarks(int64(stitches), 40)
		is(t, "all that may be taken", "40 0", len(list), code)
	}
}

func TestGreedTakesTheGreatest(t *testing.T) {
	for stitches := 1; stitches <= 12; stitches++ {
		all := naiveGreedy(stitches, 40)
		for most := range 41 {
			list, code := impl.GreedyMarks(int64(stitches), int64(most))
			is(t, fmt.Sprint(stitches, most), fmt.Sprint(all[:min(most, len(all))], 0), stitchedAll(stitches, list), code)
			apart, code := impl.CheckMarks(int64(stitches), list)
			is(t, "told apart", "true 0", apart, code)
		}
	}
}

func TestApartBy(t *testing.T) {
	for _, c := range []struct {
		one, other string
		want       string
	}{
		{"+.+.", "+.+.", "0 0"},
		{"....", "....", "0 0"},
		{"....", "++++", "4 0"},
		{"++++", "....", "4 0"},
		{"+.+.", ".+.+", "4 0"},
		{"+.+.", "+...", "1 0"},
		{"+.+.", "++..", "2 0"},
		{"+", ".", "1 0"},
		{"++++++++++++", "............", "12 0"},
		{"+..........+", "............", "2 0"},
	} {
		by, code := impl.ApartBy(int64(len(c.one)), mark(c.one), mark(c.other))
		is(t, c.one+" "+c.other, c.want, by, code)
	}
}

func TestLeastApart(t *testing.T) {
	for _, c := range []struct{ texts, want string }{
		{"", "0 6"},
		{"+.+.", "0 6"},
		{"....", "0 6"},
		{".... ++++", "4 0"},
		{".... +.++", "3 0"},
		{"+.+. +.+.", "0 0"},
		{"++++ .... ++++", "0 0"}, // the first and the last one
		{"++++ .... ...+", "1 0"}, // the last two
		{"...+ .... ++++", "1 0"}, // the first two
		{".... +..+ .++. ++++", "2 0"},
		{"++.. ..++ ++++", "2 0"},
		{"+++. ...+ ++..", "1 0"},
	} {
		least, code := impl.LeastApart(4, marks(c.texts))
		is(t, c.texts, c.want, least, code)
	}
	least, code := impl.LeastApart(12, marks("............ ++++++++++++"))
	is(t, "all stitches", "12 0", least, code)
}

func TestLeastOfAllPairs(t *testing.T) {
	d := dice(102)
	for range 2000 {
		stitches := d.stitches()
		list := d.marks(stitches, d.below(12))
		var by []int64
		for i, a := range stitchedAll(stitches, list) {
			for k, b := range stitchedAll(stitches, list) {
				if i != k {
					by = append(by, naiveApartBy(a, b))
				}
			}
		}
		want := "0 6"
		if len(by) > 0 {
			want = fmt.Sprint(slices.Min(by), 0)
		}
		least, code := impl.LeastApart(int64(stitches), list)
		is(t, fmt.Sprint(list), want, least, code)
	}
}
