package tests

import (
	"slices"

	"loop.example/g01378/impl"
)

// The functions here follow the text of chapter 3 naively, so that the program is held against something else than itself.

func weather(sun, wind, rain int8) impl.Weather {
	return impl.Weather{Sun: sun, Wind: wind, Rain: rain}
}

func wash(wet int16, thick int8) impl.Wash {
	return impl.Wash{Wet: wet, Thick: thick}
}

// dayOf returns a day with the same weather in all hours.
func dayOf(t impl.Weather) impl.Day {
	var d impl.Day
	for h := range d {
		d[h] = t
	}
	return d
}

// fairDay is the day of the document's example: a thing of the thickness 2 loses 5 each hour in the sun, and 2 in the shade.
func fairDay() impl.Day {
	return dayOf(weather(2, 1, 0))
}

// rainyAt returns the day of the example with rain of 1 in some hours.
func rainyAt(hours ...int) impl.Day {
	d := fairDay()
	for _, h := range hours {
		d[h].Rain = 1
	}
	return d
}

// dryDay takes any sun and wind, and no rain.
func (d *dice) dryDay() impl.Day {
	var day impl.Day
	sunny, windy := 1+d.below(10), 1+d.below(10)
	for h := range day {
		day[h] = weather(int8(d.below(sunny)), int8(d.below(windy)), 0)
	}
	return day
}

// day has rain in few hours, in many, or in all.
func (d *dice) day() impl.Day {
	day := d.dryDay()
	often := []int{0, 1, 3, 12, 24, 24}[d.below(6)]
	for h := range day {
		if d.below(24) < often {
			day[h].Rain = int8(1 + d.below(9))
		}
	}
	return day
}

// wash is mostly little wet, so that many things become dry; some are without water, and some as wet as can be.
func (d *dice) wash() impl.Wash {
	wet := []int{0, d.below(20), d.below(100), d.below(100), d.below(1001), 1000 - d.below(20)}[d.below(6)]
	return wash(int16(wet), int8(1+d.below(9)))
}

func (d *dice) washes(count int) []impl.Wash {
	var list []impl.Wash
	for range count {
		list = append(list, d.wash())
	}
	return list
}

func (d *dice) shade() bool {
	return d.below(2) == 0
}

func wrongWeathers() []impl.Weather {
	var wrong []impl.Weather
	for _, n := range []int8{-1, 10, -128, 127, 16} {
		wrong = append(wrong, weather(n, 0, 0), weather(0, n, 0), weather(0, 0, n), weather(n, 9, 9), weather(9, n, 9), weather(9, 9, n), weather(n, n, n))
	}
	return wrong
}

func wrongWashes() []impl.Wash {
	return []impl.Wash{
		{}, wash(0, 0), wash(20, 0), wash(20, -1), wash(20, 10), wash(20, -128), wash(20, 127), wash(-1, 2), wash(1001, 2),
		wash(-32768, 2), wash(32767, 2), wash(1001, 0), wash(-1, 10), wash(-256, 1),
	}
}

func naiveHour(wet int64, thick int8, t impl.Weather, shade bool) int64 {
	if t.Rain != 0 {
		wet += 5 * int64(t.Rain)
		if wet > 1000 {
			return 1000
		}
		return wet
	}
	sun := int64(t.Sun)
	if shade {
		sun = 0
	}
	wet -= (3*sun + 2*int64(t.Wind) + 2) / int64(thick)
	if wet < 0 {
		return 0
	}
	return wet
}

func naiveBehind(d impl.Day, w impl.Wash, from, to int64, shade bool) int64 {
	wet := int64(w.Wet)
	for h := from; h < to; h++ {
		wet = naiveHour(wet, w.Thick, d[h], shade)
	}
	return wet
}

// naiveDryAt returns the first hour at which all things are dry, or -1 if there is none.
func naiveDryAt(d impl.Day, list []impl.Wash, from int64, shade func(i int64) bool) int64 {
	for h := from; h <= 24; h++ {
		wet := int64(0)
		for i, w := range list {
			wet += naiveBehind(d, w, from, h, shade(int64(i)))
		}
		if wet == 0 {
			return h
		}
	}
	return -1
}

func naiveDryAlone(d impl.Day, w impl.Wash, from int64, shade bool) int64 {
	return naiveDryAt(d, []impl.Wash{w}, from, func(int64) bool { return shade })
}

// naiveWater returns the sum of what things have behind some hours, if those of sunny hang in the sun.
func naiveWater(d impl.Day, list []impl.Wash, from, to int64, sunny []int64) int64 {
	sum := int64(0)
	for i, w := range list {
		sum += naiveBehind(d, w, from, to, !slices.Contains(sunny, int64(i)))
	}
	return sum
}

// naiveLeft returns what things have at 24, if they are hung up in an order.
func naiveLeft(d impl.Day, list []impl.Wash, order []int64, from int64) []int64 {
	var left []int64
	for k, i := range order {
		left = append(left, naiveBehind(d, list[i], from+int64(k), 24, false))
	}
	return left
}

func total(list []int64) int64 {
	sum := int64(0)
	for _, n := range list {
		sum += n
	}
	return sum
}
