package tests

import (
	"fmt"
	"strings"
	"testing"

	"loop.example/g01378/impl"
)

// textOf returns a text with the same part for each hour but the first one.
func textOf(first, rest string) string {
	return first + strings.Repeat(" "+rest, 23)
}

func TestDayText(t *testing.T) {
	is(t, "fair", textOf("2/1/0", "2/1/0"), impl.DayText(fairDay()))
	is(t, "the zero day", textOf("0/0/0", "0/0/0"), impl.DayText(impl.Day{}))
	is(t, "limits", textOf("9/9/9", "9/9/9"), impl.DayText(dayOf(weather(9, 9, 9))))
	d := fairDay()
	d[0] = weather(3, 0, 7)
	is(t, "another first hour", textOf("3/0/7", "2/1/0"), impl.DayText(d))
	d = rainyAt(23)
	is(t, "another last hour", strings.Repeat("2/1/0 ", 23)+"2/1/1", impl.DayText(d))
	for _, w := range wrongWeathers() {
		for _, h := range []int{0, 11, 23} {
			d := fairDay()
			d[h] = w
			is(t, fmt.Sprint(h, w), "", impl.DayText(d))
		}
	}
}

func TestDaysAreReadFromTheirTexts(t *testing.T) {
	d := dice(54)
	for range 1000 {
		day := d.day()
		text := impl.DayText(day)
		got, code := impl.ReadDay(text)
		if code != impl.OK || got != day || impl.DayText(got) != text {
			t.Fatalf("%q: got %v %d", text, got, code)
		}
	}
	everyWeather(func(w impl.Weather) {
		day := fairDay()
		day[0] = w
		got, code := impl.ReadDay(textOf(fmt.Sprintf("%d/%d/%d", w.Sun, w.Wind, w.Rain), "2/1/0"))
		if code != impl.OK || got != day {
			t.Fatalf("%v: got %v %d", w, got, code)
		}
	})
}

func TestTextsOfNoDay(t *testing.T) {
	right := impl.DayText(fairDay())
	texts := []string{
		"", "x", " ", "/", "2/1/0", right + " ", " " + right, right + "\n", right + " 2/1/0", right[6:], right + "/", right + "x", "x" + right, right + right, right + "\x00",
		strings.Replace(right, " ", "  ", 1), strings.Replace(right, " ", "", 1), strings.Replace(right, " ", "\n", 1), strings.Replace(right, " ", "\t", 1), strings.Replace(right, " ", ",", 1),
		strings.ReplaceAll(right, " ", "\n"), strings.ReplaceAll(right, "/", "-"), strings.ReplaceAll(right, "/", " "), right[:len(right)-1], right[:len(right)-2], right[1:],
	}
	for _, part := range []string{
		"", "2", "2/1", "2/1/", "2//0", "/1/0", "2/1/0/", "2/1/0/0", "/2/1/0", "2 /1/0", "2/ 1/0", "2-1-0", "2\\1\\0", "02/1/0", "2/01/0", "2/1/00", "+2/1/0", "2/+1/0", "2/1/+0",
		"-2/1/0", "2/-1/0", "2/1/-1", "2/1/-0", "-0/1/0", "10/1/0", "2/10/0", "2/1/10", "2.0/1/0", "2/1e0/0", "0x2/1/0", "2/1_/0", "2/0_1/0", "x/1/0", "2/x/0", "2/1/x", "258/1/0", "2/257/0", "2/1/256",
		"2/1/65536", "99999999999999999999/1/0", "2/18446744073709551617/0", "٢/1/0", "2/1/0\x00", "2/1/0.",
	} {
		texts = append(texts, textOf(part, "2/1/0"), strings.Repeat("2/1/0 ", 23)+part)
	}
	for _, text := range texts {
		day, code := impl.ReadDay(text)
		if day != (impl.Day{}) || code != impl.ErrSyntax {
			t.Errorf("%q: got %v %d", text, day, code)
		}
	}
}

func TestLongTextsOfDays(t *testing.T) {
	for _, text := range []string{
		strings.Repeat("9", 1000000), strings.Repeat(" ", 1000000), strings.Repeat("/", 1000000), strings.Repeat("2/1/0 ", 160000),
		textOf(strings.Repeat("0", 999000)+"2/1/0", "2/1/0"),
	} {
		day, code := impl.ReadDay(text)
		if day != (impl.Day{}) || code != impl.ErrSyntax {
			t.Errorf("a long text: got %v %d", day, code)
		}
	}
}
