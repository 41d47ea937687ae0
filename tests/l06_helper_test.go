package tests

import (
	"slices"
	"strings"

	"loop.example/g01378/impl"
)

// The functions here follow the text of chapter 6 naively, with marks as texts, so that the program is held against
// something else than itself.

// mark returns the mark with a text.
func mark(text string) impl.Mark {
	m, worth := 0, 1
	for _, letter := range text {
		if letter == '+' {
			m += worth
		}
		worth *= 2
	}
	return impl.Mark(m)
}

// marks returns the marks with some texts, separated by blanks.
func marks(texts string) []impl.Mark {
	var list []impl.Mark
	for text := range strings.FieldsSeq(texts) {
		list = append(list, mark(text))
	}
	return list
}

// stitched returns the text of a mark of so many stitches.
func stitched(stitches int, m impl.Mark) string {
	text, rest := "", int(m)
	for range stitches {
		text += string(".+"[rest%2])
		rest /= 2
	}
	return text
}

func stitchedAll(stitches int, list []impl.Mark) []string {
	var texts []string
	for _, m := range list {
		texts = append(texts, stitched(stitches, m))
	}
	return texts
}

// everyMark returns the texts of all marks of so many stitches, from the number 0 up.
func everyMark(stitches int) []string {
	all := []string{""}
	for range stitches {
		var longer []string
		for _, end := range all {
			longer = append(longer, "."+end, "+"+end)
		}
		all = longer
	}
	return all
}

// naiveSeen returns the texts of all that can be seen of a mark.
func naiveSeen(text string) []string {
	seen := []string{text}
	for k, letter := range text {
		if letter == '+' {
			seen = append(seen, text[:k]+"."+text[k+1:])
		}
	}
	return seen
}

// naiveClash reports whether one mark can be seen of both.
func naiveClash(a, b string) bool {
	ofB := naiveSeen(b)
	for _, seen := range naiveSeen(a) {
		if slices.Contains(ofB, seen) {
			return true
		}
	}
	return false
}

// naiveFirstClash returns the first pair of places of which one mark can be seen, and whether there is one.
func naiveFirstClash(texts []string) (int, int, bool) {
	for a := range texts {
		for b := range texts {
			if a < b && naiveClash(texts[a], texts[b]) {
				return a, b, true
			}
		}
	}
	return 0, 0, false
}

// naiveRead returns the places of all marks of which one can be seen.
func naiveRead(texts []string, seen string) []int64 {
	var places []int64
	for i, text := range texts {
		if slices.Contains(naiveSeen(text), seen) {
			places = append(places, int64(i))
		}
	}
	return places
}

func naiveGreedy(stitches, most int) []string {
	var taken []string
	seen := map[string]bool{}
	for _, text := range slices.Backward(everyMark(stitches)) {
		ofText := naiveSeen(text)
		if len(taken) < most && !slices.ContainsFunc(ofText, func(one string) bool { return seen[one] }) {
			taken = append(taken, text)
			for _, one := range ofText {
				seen[one] = true
			}
		}
	}
	return taken
}

func naiveClass(text string) int64 {
	class := 0
	for k, letter := range text {
		for range k + 1 {
			if letter == '+' {
				class++
			}
			if class > len(text) {
				class = 0
			}
		}
	}
	return int64(class)
}

// naiveClassMarks returns the texts of all marks of a class, from the least number up.
func naiveClassMarks(stitches int, class int64) []string {
	var list []string
	for _, text := range everyMark(stitches) {
		if naiveClass(text) == class {
			list = append(list, text)
		}
	}
	return list
}

func naiveSort(texts, seen []string) ([][]int64, []int64) {
	sorted, unread := make([][]int64, len(texts)), []int64(nil)
	for i, text := range seen {
		places := naiveRead(texts, text)
		for _, place := range places {
			sorted[place] = append(sorted[place], int64(i))
		}
		if len(places) == 0 {
			unread = append(unread, int64(i))
		}
	}
	return sorted, unread
}

// naiveLost returns how many stitches of a mark are lost in what is seen, or -1 if this has others.
func naiveLost(text, seen string) int {
	lost := 0
	for k := range text {
		if seen[k] == '+' && text[k] == '.' {
			return -1
		}
		if seen[k] == '.' && text[k] == '+' {
			lost++
		}
	}
	return lost
}

func naiveLikely(texts []string, seen string) []int64 {
	for fewest := range len(seen) + 1 {
		var places []int64
		for i, text := range texts {
			if naiveLost(text, seen) == fewest {
				places = append(places, int64(i))
			}
		}
		if len(places) > 0 {
			return places
		}
	}
	return nil
}

func naiveApartBy(a, b string) int64 {
	differ := int64(0)
	for k := range a {
		if a[k] != b[k] {
			differ++
		}
	}
	return differ
}

// stitches is often few, so that marks are near to each other.
func (d *dice) stitches() int {
	return 1 + []int{d.below(4), d.below(8), d.below(12)}[d.below(3)]
}

func (d *dice) mark(stitches int) impl.Mark {
	return impl.Mark(d.below(1 << stitches))
}

// marks are often told apart: these are taken from one class, and a few others may be among them.
func (d *dice) marks(stitches, count int) []impl.Mark {
	class, strange := naiveClassMarks(stitches, int64(d.below(stitches+1))), d.below(3) == 0
	var list []impl.Mark
	for range count {
		if strange && d.below(8) == 0 {
			list = append(list, d.mark(stitches))
		} else if len(class) > 0 {
			at := d.below(len(class))
			list = append(list, mark(class[at]))
			class = slices.Delete(class, at, at+1)
		}
	}
	return list
}

// seen is mostly one of a list, and has often lost some stitches.
func (d *dice) seen(stitches int, list []impl.Mark) impl.Mark {
	if len(list) == 0 || d.below(6) == 0 {
		return d.mark(stitches)
	}
	m := list[d.below(len(list))]
	for range d.below(3) {
		m &^= 1 << d.below(stitches)
	}
	return m
}

func (d *dice) seenMarks(stitches int, list []impl.Mark, count int) []impl.Mark {
	var seen []impl.Mark
	for range count {
		seen = append(seen, d.seen(stitches, list))
	}
	return seen
}

// someApart returns as many marks of 12 stitches, at most 316, that are told apart.
func someApart(count int) []impl.Mark {
	return marks(strings.Join(naiveClassMarks(12, 0)[:count], " "))
}
