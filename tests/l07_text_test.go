package tests

import (
	"fmt"
	"regexp"
	"slices"
	"strings"
	"testing"

	"loop.example/g01378/impl"
)

func TestPiecesText(t *testing.T) {
	is(t, "text", exampleOfIroning, impl.PiecesText([]impl.Piece{toPress(1, 10, 20), toPress(3, 5, 12), toPress(2, 8, 60)}))
	is(t, "limits", "1/1@0 3/60@1000", impl.PiecesText([]impl.Piece{toPress(1, 1, 0), toPress(3, 60, 1000)}))
	is(t, "no pieces", " ", impl.PiecesText(nil), impl.PiecesText([]impl.Piece{}))
	is(t, "one", "2/8@60", impl.PiecesText([]impl.Piece{toPress(2, 8, 60)}))
	p := toPress(1, 1, 0)
	is(t, "eight", strings.Repeat("1/1@0 ", 7)+"1/1@0", impl.PiecesText(manyPieces(p, 8)))
	is(t, "nine", "", impl.PiecesText(manyPieces(p, 9)))
	for _, wrong := range wrongPieces() {
		for at := range 4 {
			is(t, fmt.Sprint(wrong), "", impl.PiecesText(slices.Insert(toIron(exampleOfIroning), at, wrong)))
		}
	}
}

func TestPiecesAreReadFromTheirTexts(t *testing.T) {
	d := dice(136)
	for range 3000 {
		list := d.pieces(d.below(9))
		text := impl.PiecesText(list)
		got, code := impl.ReadPieces(text)
		if code != impl.OK || !slices.Equal(got, list) || impl.PiecesText(got) != text {
			t.Fatalf("%q: got %v %d", text, got, code)
		}
	}
	for due := range int16(1001) {
		p := toPress(int8(1+due%3), int8(1+due%60), due)
		got, code := impl.ReadPieces(fmt.Sprint(p.Level, "/", p.Minutes, "@", p.Due))
		is(t, "read", fmt.Sprint([]impl.Piece{p}, 0), got, code)
	}
	got, code := impl.ReadPieces("")
	is(t, "the empty text", "[] 0", got, code)
	got, code = impl.ReadPieces(strings.Repeat("3/60@1000 ", 7) + "3/60@1000")
	is(t, "eight", fmt.Sprint(manyPieces(toPress(3, 60, 1000), 8), 0), got, code)
}

func TestTextsOfNoPieces(t *testing.T) {
	texts := []string{
		"x", " ", "/", "@", "/@", "1", "1/", "1/10", "1/10@", "1/@20", "/10@20", "1@20", "@20", "1@20/10", "1/10 20", "1 10@20", "1@10@20", "1/10/20", "10@20", "20",
		"1/10@20 ", " 1/10@20", "  1/10@20", "1/10@20  3/5@12", "1/10@20 3", "1/10@20 3/5", "1/10@20 x", "1/10@20\n", "\n1/10@20", "1/10@20\n3/5@12", "1/10@20\t3/5@12", "1/10@20\r",
		"1/10@20,3/5@12", "1/10@20;", "1 /10@20", "1/ 10@20", "1/10 @20", "1/10@ 20", "1//10@20", "1/10@@20", "1/10@20@5", "1/10/5@20", "1-10@20", "1/10-20",
		"+1/10@20", "1/+10@20", "1/10@+20", "-1/10@20", "1/-10@20", "1/10@-20", "1/10@-0", "-0/10@20", "01/10@20", "1/010@20", "1/10@020", "1/10@00", "001/10@20",
		"1_0/10@20", "0x1/10@20", "1/0xA@20", "1e0/10@20", "1.0/10@20", "1/10.@20", "1/10@20.",
		"0/10@20", "4/10@20", "1/0@20", "1/61@20", "1/10@1001", "1/10@20 0/5@12", "1/10@20 3/61@12", "1/10@20 3/5@1001", "257/10@20", "1/266@20", "1/10@65556", "128/10@20", "1/128@20", "1/10@32768",
		"1/10@99999999999999999999", "99999999999999999999/10@20", "18446744073709551617/10@20", "1/10@20\x00", "\x001/10@20", "١/10@20", "1/10@２０", "1/10@20x", "x1/10@20", "1/10x@20",
		strings.Repeat("1/1@0 ", 8) + "1/1@0", strings.Repeat("1/1@0 ", 8), strings.Repeat("1/1@0 ", 7), strings.Repeat("1/1@0 ", 7) + "x", strings.Repeat("1/1@0 ", 7) + "1/0@0", strings.Repeat("1/1@0 ", 20) + "1/1@0",
	}
	for _, text := range texts {
		got, code := impl.ReadPieces(text)
		is(t, fmt.Sprintf("%q", text), "[] 5", got, code)
	}
}

// rightPiece matches the text of one valid piece.
const rightPiece = "[1-3]/([1-9]|[1-5][0-9]|60)@(0|[1-9][0-9]{0,2}|1000)"

// TestSpoiltTextsOfPieces changes, takes away and adds bytes of a text: what is still read has just this text.
func TestSpoiltTextsOfPieces(t *testing.T) {
	right := regexp.MustCompile("^(" + rightPiece + "( " + rightPiece + "){0,7})?$")
	check := func(text string) {
		got, code := impl.ReadPieces(text)
		if want := right.MatchString(text); want != (code == impl.OK) || want && impl.PiecesText(got) != text || !want && (code != impl.ErrSyntax || len(got) > 0) {
			t.Fatalf("%q: got %v %d", text, got, code)
		}
	}
	for _, whole := range []string{exampleOfIroning, "3/60@1000 1/59@999", "1/1@0"} {
		for at := range whole {
			check(whole[:at] + whole[at+1:])
			check(whole[:at])
			check(whole[at:])
			for letter := range 256 {
				one := string([]byte{byte(letter)})
				check(whole[:at] + one + whole[at+1:])
				check(whole[:at] + one + whole[at:])
				check(whole + one)
			}
		}
	}
}

func TestLongTextsOfPieces(t *testing.T) {
	for _, text := range []string{
		strings.Repeat("9", 1000000), strings.Repeat(" ", 1000000), strings.Repeat("/", 1000000), strings.Repeat("@", 1000000), strings.Repeat("1/1@0 ", 160000),
		"1/1@" + strings.Repeat("0", 999000) + "1", strings.Repeat("0", 999000) + "1/1@1",
	} {
		got, code := impl.ReadPieces(text)
		is(t, "a long text", "[] 5", got, code)
	}
}
