package tests

import (
	"fmt"
	"strings"
	"testing"

	"loop.example/g01378/impl"
)

func TestMarkText(t *testing.T) {
	for _, c := range []struct {
		stitches int64
		m        impl.Mark
		want     string
	}{
		{4, 5, "+.+."},
		{4, 0, "...."},
		{4, 15, "++++"},
		{4, 8, "...+"},
		{1, 0, "."},
		{1, 1, "+"},
		{3, 5, "+.+"},
		{12, 5, "+.+........."},
		{12, 4095, "++++++++++++"},
		{12, 2048, "...........+"},
		{4, 16, ""},
		{4, 16 + 5, ""},
		{1, 2, ""},
		{12, 4096, ""},
		{12, 1<<16 - 1, ""},
	} {
		is(t, fmt.Sprint(c.m, " of ", c.stitches), c.want, impl.MarkText(c.stitches, c.m))
	}
	for _, stitches := range wrongStitches() {
		is(t, fmt.Sprint(stitches, " stitches"), " ", impl.MarkText(stitches, 0), impl.MarkText(stitches, 5))
	}
	for _, m := range wrongMarks() {
		is(t, fmt.Sprint("the mark ", m), "", impl.MarkText(4, m))
	}
}

func TestMarksAreReadFromTheirTexts(t *testing.T) {
	for stitches := 1; stitches <= 12; stitches++ {
		for m, text := range everyMark(stitches) {
			is(t, text, text, impl.MarkText(int64(stitches), impl.Mark(m)))
			got, count, code := impl.ReadMark(text)
			is(t, text, fmt.Sprint(m, stitches, 0), got, count, code)
		}
	}
}

func TestTextsOfNoMark(t *testing.T) {
	texts := []string{
		"", " ", "\n", "x", "-", "0", "1", "5", "5/4", "*", "#", "+x", "x+", "+.x.", "+.+. ", " +.+.", "+ .", "+.+.\n", "\n+.+.", "+.\n+.", "+.+.\r", "+,+,", "+.+.\x00", "\x00", "＋．", "+·+", "+…", "\xff", "+\xff.",
		".............", "+++++++++++++", "+............", "............+", "............ ", "............\n", "++++++++++++++", strings.Repeat("+.", 8), strings.Repeat("+", 16), strings.Repeat(".", 64), strings.Repeat("+", 64), strings.Repeat(".", 256+4),
	}
	for _, text := range texts {
		m, stitches, code := impl.ReadMark(text)
		is(t, fmt.Sprintf("%q", text), "0 0 5", m, stitches, code)
	}
	for stitches := 1; stitches <= 12; stitches++ {
		for at := range stitches {
			for letter := range 256 {
				if letter == '+' || letter == '.' {
					continue
				}
				text := []byte(strings.Repeat("+", stitches))
				text[at] = byte(letter)
				m, count, code := impl.ReadMark(string(text))
				is(t, fmt.Sprintf("%q", text), "0 0 5", m, count, code)
			}
		}
	}
}

func TestLongTextsOfMarks(t *testing.T) {
	for _, text := range []string{strings.Repeat("+", 1000000), strings.Repeat(".", 1000000), strings.Repeat("+.", 500000), strings.Repeat(" ", 1000000), strings.Repeat("\n", 1000000)} {
		m, stitches, code := impl.ReadMark(text)
		is(t, "a long text", "0 0 5", m, stitches, code)
	}
}
