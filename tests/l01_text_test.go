package tests

import (
	"fmt"
	"strings"
	"testing"

	"loop.example/g01378/impl"
)

func TestGarmentsText(t *testing.T) {
	is(t, "text", "0/60-95 500\n1/30-40 300\n2/0-60 900\n", impl.GarmentsText(trio))
	is(t, "limits", "0/0-0 1\n5/95-95 2000\n", impl.GarmentsText([]impl.Garment{garment(0, 0, 0, 1), garment(5, 95, 95, 2000)}))
	is(t, "no garments", "", impl.GarmentsText(nil))
	eight := repeat(trio[0], 8)
	is(t, "eight", strings.Repeat("0/60-95 500\n", 8), impl.GarmentsText(eight))
	is(t, "nine", "", impl.GarmentsText(append(eight, trio[0])))
	for _, wrong := range wrongGarments() {
		is(t, fmt.Sprint(wrong), "", impl.GarmentsText([]impl.Garment{trio[0], wrong}))
		is(t, fmt.Sprint(wrong), "", impl.GarmentsText([]impl.Garment{wrong, trio[0]}))
	}
}

func TestGarmentsAreReadFromTheirTexts(t *testing.T) {
	d := dice(12)
	for range 1000 {
		list := d.garments(d.below(9))
		text := impl.GarmentsText(list)
		read, code := impl.ReadGarments(text)
		if code != impl.OK || !impl.SameGarments(read, list) || impl.GarmentsText(read) != text {
			t.Fatalf("%q: got %v %d", text, read, code)
		}
	}
	for colour := range impl.Colours {
		for heat := range impl.MaxHeat + 1 {
			list := []impl.Garment{garment(uint8(colour), int8(heat), int8(heat), int16(1+20*heat))}
			read, code := impl.ReadGarments(impl.GarmentsText(list))
			is(t, "read", fmt.Sprint(list, code), read, impl.OK)
		}
	}
	read, code := impl.ReadGarments("")
	is(t, "the empty text", "0 0", len(read), code)
}

func TestTextsOfNoGarments(t *testing.T) {
	line := "0/60-95 500\n"
	texts := []string{
		"x", "\n", " ", "0", "/- ", "/- \n", "0/60-95 500", "0/60-95 500\n\n", "\n0/60-95 500\n", "0/60-95 500\r\n", " 0/60-95 500\n",
		"0/60-95 500 \n", "0/60-95  500\n", "0/60-95\t500\n", "0 60-95 500\n", "0/60/95 500\n", "0-60-95 500\n", "0/60-95-500\n",
		"0/60-95\n", "0/60 500\n", "0/-95 500\n", "0/60- 500\n", "/60-95 500\n", "0/60-95 \n", "0/60-95 500 1\n", "0//60-95 500\n", "0/60--95 500\n",
		"00/60-95 500\n", "0/060-95 500\n", "0/60-095 500\n", "0/60-95 0500\n", "+0/60-95 500\n", "0/+60-95 500\n", "0/60-+95 500\n", "0/60-95 +500\n",
		"-0/60-95 500\n", "0/-0-95 500\n", "0/60-95 -500\n", "0/0-95 -0\n", "0/60-95 5_00\n", "0/60-95 0x5\n", "0/60-95 5e2\n", "0/60-95 500.0\n",
		"6/60-95 500\n", "-1/60-95 500\n", "256/60-95 500\n", "0/96-95 500\n", "0/60-96 500\n", "0/60-59 500\n", "0/-1-95 500\n", "0/0-351 500\n",
		"0/256-351 500\n", "0/60-95 0\n", "0/60-95 2001\n", "0/60-95 66036\n", "0/60-95 99999999999999999999\n", "0/60-95 18446744073709552116\n",
		"0/60-95 500\x00\n", "0/60-95 ٥\n", "0/60-95 500\n1", line + "6/60-95 500\n" + line, strings.Repeat(line, 9), strings.Repeat(line, 8) + "x",
		"0/60-95 500;1/30-40 300\n", "0/60-95 500\r1/30-40 300\n",
	}
	for _, text := range texts {
		read, code := impl.ReadGarments(text)
		is(t, fmt.Sprintf("%q", text), "0 5", len(read), code)
	}
	for i := range line { // a text without one of its bytes, but for those of numbers that stay numbers
		without := line[:i] + line[i+1:]
		read, code := impl.ReadGarments(without)
		if code == impl.OK && impl.GarmentsText(read) != without {
			t.Errorf("%q is read as %v", without, read)
		}
	}
}

func TestLongTexts(t *testing.T) {
	line := "0/60-95 500\n"
	for _, text := range []string{
		strings.Repeat("9", 1000000), strings.Repeat("\n", 1000000), strings.Repeat(line, 80000), "0/60-95 " + strings.Repeat("0", 999000) + "1\n",
		strings.Repeat("/", 1000000), strings.Repeat("-", 1000000),
	} {
		read, code := impl.ReadGarments(text)
		is(t, "a long text", "0 5", len(read), code)
	}
}
