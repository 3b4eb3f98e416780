package tests

import (
	"fmt"
	"math"
	"slices"
	"strings"
	"testing"

	"loop.example/widgetroom/impl"
)

func TestTextConstants(t *testing.T) {
	if impl.MaxDesk != 20 {
		t.Error("the limit is not that of the document")
	}
}

func TestTextExamples(t *testing.T) {
	for _, c := range []struct {
		text string
		p    impl.Pack
	}{
		{"top 10 4", impl.Pack{Side: impl.SdTop, W: 10, H: 4, Anchor: 4}},
		{"bottom 0 30", impl.Pack{Side: impl.SdBottom, H: 30, Anchor: 4}},
		{"left 30 0 fillx", impl.Pack{Side: impl.SdLeft, W: 30, FillX: true, Anchor: 4}},
		{"right 1 2 filly", impl.Pack{Side: impl.SdRight, W: 1, H: 2, FillY: true, Anchor: 4}},
		{"top 9 9 expand", impl.Pack{W: 9, H: 9, Expand: true, Anchor: 4}},
		{"top 0 0 anchor 0", impl.Pack{}},
		{"left 20 10 anchor 8", impl.Pack{Side: impl.SdLeft, W: 20, H: 10, Anchor: 8}},
		{"right 4 4 anchor 3 padx 4 pady 4", impl.Pack{Side: impl.SdRight, W: 4, H: 4, Anchor: 3, PadX: 4, PadY: 4}},
		{"top 1 1 padx 1", impl.Pack{W: 1, H: 1, Anchor: 4, PadX: 1}},
		{"top 1 1 pady 10", impl.Pack{W: 1, H: 1, Anchor: 4, PadY: 10}},
		{"bottom 7 8 fillx expand pady 9", impl.Pack{Side: impl.SdBottom, W: 7, H: 8, FillX: true, Expand: true, Anchor: 4, PadY: 9}},
		{"bottom 7 8 filly expand anchor 5 padx 9", impl.Pack{Side: impl.SdBottom, W: 7, H: 8, FillY: true, Expand: true, Anchor: 5, PadX: 9}},
		{"left 0 30 fillx filly expand anchor 0 padx 10 pady 1", impl.Pack{Side: impl.SdLeft, H: 30, FillX: true, FillY: true, Expand: true, PadX: 10, PadY: 1}},
	} {
		if got := impl.PackText(c.p); got != c.text {
			t.Errorf("PackText(%+v) = %q, not %q", c.p, got, c.text)
		}
		if got, ok := impl.ParsePack(c.text); !ok || got != c.p {
			t.Errorf("ParsePack(%q) = %+v, %v, not %+v", c.text, got, ok, c.p)
		}
	}
}

func TestPackText(t *testing.T) {
	for _, p := range slices.Concat(goodItems(), fieldItems(), textItems()) {
		if got, want := impl.PackText(p), wantText(p); got != want {
			t.Errorf("PackText(%+v) = %q, not %q", p, got, want)
		}
	}
}

func TestPackTextInvalid(t *testing.T) {
	for _, p := range badItems() {
		if got := impl.PackText(p); got != "" {
			t.Errorf("PackText(%+v) = %q", p, got)
		}
	}
}

// wantNoItem checks that a text is none of an item.
func wantNoItem(t *testing.T, text string) {
	t.Helper()
	if p, ok := impl.ParsePack(text); ok || p != (impl.Pack{}) {
		t.Errorf("ParsePack(%q) = %+v, %v", text, p, ok)
	}
}

func TestParsePackInvalidExamples(t *testing.T) {
	for _, text := range []string{
		"", " ", "\n", "x", "\x00", "\xff", "\xff 1 1", "top\xff 1 1", "top 1 1\xff", "top 1 1 \xff",
		// Sides that are none, and words that are not all there.
		"top", "top ", "top 1", "top 1 ", "1 1", " 1 1", "up 1 1", "to 1 1", "topp 1 1", "Top 1 1", "TOP 1 1", "0 1 1", "SdTop 1 1", "middle 1 1", "1 1 top", "1 top 1", "top fillx", "top 1 fillx", "fillx", "expand",
		// A space too many, or too few, and other bytes in the place of one.
		" top 1 1", "top  1 1", "top 1  1", "top 1 1 ", "top1 1", "top 11", "top 1 1  fillx", "top 1 1 fillx ", "top 1 1fillx", "top 1 1 fillxfilly", "top\t1 1", "top 1\n1", "top 1 1\n", "top 1 1\r", "top,1,1", "top 1 1 padx5", "top 1 1 padx  5",
		// Zeros ahead, signs, and numbers beyond the limits, or too long to be held.
		"top 01 1", "top 1 01", "top 00 1", "top 1 00", "top -1 1", "top 1 -1", "top -0 1", "top +1 1", "top 1 +1", "top 31 1", "top 1 31", "top 1 100", "top 0x1 1", "top 1.0 1", "top 1e0 1", "top 1_0 1", "top a 1", "top 1 a", "top １ 1", "top ١ 1",
		"top 4294967297 1", "top 1 18446744073709551617", "top 340282366920938463463374607431768211457 1", "top 1 -18446744073709551615", "top 99999999999999999999999999 1", "top 1 1 padx 18446744073709551617",
		"top 1 1 anchor 9", "top 1 1 anchor -1", "top 1 1 anchor 00", "top 1 1 anchor 08", "top 1 1 anchor +3", "top 1 1 anchor 10", "top 1 1 padx 11", "top 1 1 pady 11", "top 1 1 padx -1", "top 1 1 padx 01", "top 1 1 pady 010", "top 1 1 anchor 4294967296",
		// Words without a number, with two, or with one that has none.
		"top 1 1 anchor", "top 1 1 anchor ", "top 1 1 padx", "top 1 1 pady", "top 1 1 anchor padx 1", "top 1 1 padx pady 1", "top 1 1 anchor 3 padx", "top 1 1 anchor 3 5", "top 1 1 padx 3 5", "top 1 1 3", "top 1 1 fillx 1", "top 1 1 1", "top 1 1 expand 0", "top 1 1 anchor x", "top 1 1 anchor expand",
		// What is to be left out.
		"top 1 1 anchor 4", "top 1 1 padx 0", "top 1 1 pady 0", "top 1 1 anchor 4 padx 1", "top 1 1 padx 0 pady 0", "top 1 1 anchor 3 pady 0", "top 1 1 padx 0 pady 3",
		// Another order, and words twice.
		"top 1 1 filly fillx", "top 1 1 expand fillx", "top 1 1 expand filly", "top 1 1 anchor 3 fillx", "top 1 1 anchor 3 expand", "top 1 1 padx 1 anchor 3", "top 1 1 pady 1 padx 1", "top 1 1 pady 1 anchor 3", "top 1 1 padx 1 expand", "top fillx 1 1", "fillx top 1 1", "expand top 1 1", "padx 1 top 1 1",
		"top 1 1 fillx fillx", "top 1 1 filly filly", "top 1 1 expand expand", "top 1 1 anchor 3 anchor 3", "top 1 1 anchor 3 anchor 5", "top 1 1 padx 1 padx 1", "top 1 1 pady 1 pady 2", "top top 1 1", "top 1 1 top", "top 1 1 top 1 1", "top left 1 1",
		// Words that are none.
		"top 1 1 fill", "top 1 1 fillxy", "top 1 1 FILLX", "top 1 1 Expand", "top 1 1 pad 3", "top 1 1 padX 3", "top 1 1 x", "top 1 1 -", "top 1 1 fillx,", "top 1 1 at 3",
	} {
		wantNoItem(t, text)
	}
}

func TestParsePackNumbers(t *testing.T) {
	for _, c := range []struct {
		ahead, behind string
		least, most   int
	}{
		{"top ", " 1", 0, 30}, {"right 1 ", "", 0, 30}, {"left ", " 30 fillx filly expand anchor 0 padx 10 pady 1", 0, 30}, {"bottom 1 ", " fillx padx 1", 0, 30},
		{"top 1 1 anchor ", "", 0, 3}, {"top 1 1 anchor ", " padx 1", 5, 8}, {"top 1 1 padx ", "", 1, 10}, {"top 1 1 expand padx ", " pady 7", 1, 10}, {"top 1 1 pady ", "", 1, 10}, {"top 1 1 fillx anchor 0 padx 10 pady ", "", 1, 10},
	} {
		for n := c.least; n <= c.most; n++ {
			text := fmt.Sprintf("%s%d%s", c.ahead, n, c.behind)
			if p, ok := impl.ParsePack(text); !ok || impl.PackText(p) != text {
				t.Errorf("ParsePack(%q) = %+v, %v", text, p, ok)
			}
			wantNoItem(t, fmt.Sprintf("%s0%d%s", c.ahead, n, c.behind))
			wantNoItem(t, fmt.Sprintf("%s+%d%s", c.ahead, n, c.behind))
			wantNoItem(t, fmt.Sprintf("%s-%d%s", c.ahead, n, c.behind))
		}
		for _, n := range []int{-1, 31, 32, 40, 99, 100, 300, 400, 401, math.MaxInt, math.MinInt} {
			wantNoItem(t, fmt.Sprintf("%s%d%s", c.ahead, n, c.behind))
		}
		for _, number := range textNumbers() {
			wantNoItem(t, c.ahead+number+c.behind)
		}
		for i := range 256 {
			if i < '0' || i > '9' {
				wantNoItem(t, c.ahead+string([]byte{byte(i)})+c.behind)
				wantNoItem(t, c.ahead+"1"+string([]byte{byte(i)})+c.behind)
			}
		}
	}
}

func TestParsePack(t *testing.T) {
	some, others := 0, 0
	for _, text := range nearTexts() {
		want, wantOk := wantItem(text)
		if got, ok := impl.ParsePack(text); got != want || ok != wantOk {
			t.Errorf("ParsePack(%q) = %+v, %v, not %+v, %v", text, got, ok, want, wantOk)
		}
		if wantOk {
			some++
		} else {
			others++
		}
	}
	if some < 1000 || others < 1000 {
		t.Errorf("%d texts are those of items, and %d are not", some, others)
	}
}

func TestParsePackLongTexts(t *testing.T) {
	for _, text := range []string{strings.Repeat(" ", 100000), strings.Repeat("top 1 1 ", 10000), "top 1 1" + strings.Repeat(" fillx", 10000), "top " + strings.Repeat("1", 100000) + " 1", "top " + strings.Repeat("0", 100000) + "1 1", strings.Repeat("\xff", 100000), strings.Repeat("top", 10000)} {
		wantNoItem(t, text)
	}
}

func TestParsePacksExamples(t *testing.T) {
	one, two := item(impl.SdTop, 1, 1), impl.Pack{Side: impl.SdLeft, W: 2, H: 3, Expand: true, Anchor: 0, PadX: 4}
	for _, c := range []struct {
		text string
		want []impl.Pack
	}{
		{"", nil},
		{"top 1 1\n", []impl.Pack{one}},
		{"top 1 1\nleft 2 3 expand anchor 0 padx 4\n", []impl.Pack{one, two}},
		{"left 2 3 expand anchor 0 padx 4\ntop 1 1\ntop 1 1\n", []impl.Pack{two, one, one}},
		{strings.Repeat("top 1 1\n", 6), slices.Repeat([]impl.Pack{one}, 6)},
		{strings.Repeat("top 1 1\n", 7), slices.Repeat([]impl.Pack{one}, 7)},
		{strings.Repeat("top 1 1\n", 6) + "left 2 3 expand anchor 0 padx 4\n", append(slices.Repeat([]impl.Pack{one}, 6), two)},
	} {
		if got, ok := impl.ParsePacks(c.text); !ok || !slices.Equal(got, c.want) {
			t.Errorf("ParsePacks(%q) = %+v, %v, not %+v", c.text, got, ok, c.want)
		}
	}
}

// wantNoItems checks that a text is none of lines that are items.
func wantNoItems(t *testing.T, text string) {
	t.Helper()
	if list, ok := impl.ParsePacks(text); ok || len(list) != 0 {
		t.Errorf("ParsePacks(%.200q) = %+v, %v", text, list, ok)
	}
}

func TestParsePacksInvalid(t *testing.T) {
	for _, text := range badListTexts() {
		wantNoItems(t, text)
	}
}

func TestParsePacks(t *testing.T) {
	for _, list := range goodLists() {
		text := listText(list)
		if got, ok := impl.ParsePacks(text); !ok || !slices.Equal(got, list) {
			t.Errorf("ParsePacks(%q) = %+v, %v", text, got, ok)
		}
		wantNoItems(t, text+"\n")
		wantNoItems(t, text+"top 1 1")
		wantNoItems(t, "\n"+text)
		wantNoItems(t, text+strings.Repeat("top 1 1\n", 8-len(list)))
		if len(list) > 0 {
			wantNoItems(t, strings.TrimSuffix(text, "\n"))
			wantNoItems(t, strings.ReplaceAll(text, "\n", "\r\n"))
		}
	}
}

func TestParsePacksNearly(t *testing.T) {
	some, others := 0, 0
	for _, list := range mixedLists()[:21] {
		text := listText(list)
		for _, near := range append(nearBytes(text), strings.ReplaceAll(text, "\n", " "), strings.ReplaceAll(text, " ", "\n"), strings.ReplaceAll(text, "\n", "\n\n"), strings.TrimSpace(text)) {
			want, wantOk := wantItems(near)
			if got, ok := impl.ParsePacks(near); !slices.Equal(got, want) || ok != wantOk {
				t.Errorf("ParsePacks(%q) = %+v, %v, not %+v, %v", near, got, ok, want, wantOk)
			}
			if wantOk {
				some++
			} else {
				others++
			}
		}
	}
	if some == 0 || others == 0 {
		t.Errorf("%d texts are those of items, and %d are not", some, others)
	}
}

func TestParsePacksSharesNoMemory(t *testing.T) {
	odd := impl.Pack{W: -77, Side: 78, Anchor: -79}
	for _, list := range mixedLists()[:70] {
		text := listText(list)
		wantFresh(t, "ParsePacks", odd, func() []impl.Pack {
			got, _ := impl.ParsePacks(text)
			return got
		})
	}
}

func TestRectTextExamples(t *testing.T) {
	for _, c := range []struct {
		r    impl.Rect
		want string
	}{
		{none, "0,0+0x0"}, {rect(1, 2, 3, 4), "1,2+3x4"}, {rect(-3, 4, 5, 6), "-3,4+5x6"}, {rect(3, -4, 5, 6), "3,-4+5x6"}, {rect(-1, -1, 0, 10), "-1,-1+0x10"}, {rect(10, 100, 100, 20), "10,100+100x20"},
		{rect(-1000, -1000, 400, 400), "-1000,-1000+400x400"}, {rect(600, 600, 400, 400), "600,600+400x400"}, {rect(1000, 1000, 0, 0), "1000,1000+0x0"}, {rect(-1000, 999, 0, 1), "-1000,999+0x1"},
		{rect(-1001, 0, 1, 1), ""}, {rect(0, -1001, 1, 1), ""}, {rect(601, 0, 400, 1), ""}, {rect(0, 601, 1, 400), ""}, {rect(1001, 0, 0, 0), ""}, {rect(0, 0, 401, 0), ""}, {rect(0, 0, 0, 401), ""}, {rect(0, 0, -1, 5), ""}, {rect(0, 0, 5, -1), ""},
	} {
		if got := impl.RectText(c.r); got != c.want {
			t.Errorf("RectText(%v) = %q, not %q", c.r, got, c.want)
		}
	}
}

func TestRectText(t *testing.T) {
	for _, r := range validRects() {
		if got, want := impl.RectText(r), wantRectText(r); got != want {
			t.Errorf("RectText(%v) = %q, not %q", r, got, want)
		}
	}
	for _, r := range badRects() {
		if got := impl.RectText(r); got != "" {
			t.Errorf("RectText(%v) = %q", r, got)
		}
	}
}

func TestRunDeskExamples(t *testing.T) {
	three := "top 10 4\nleft 6 5\nbottom 3 2\n"
	grown := "top 6 2 fillx\nleft 3 1 expand padx 1\n"
	for _, c := range []struct {
		text  string
		lines []string
		want  string
	}{
		{three, nil, ""}, {"", nil, ""}, {"x", nil, ""},
		{three, []string{"size", "rects 20x15", "parcels 20x15", "left 20x15", "fits 10x9", "fits 9x9", "fits 10x8"}, "10x9\n5,0+10x4 0,7+6x5 11,13+3x2\n0,0+20x4 0,4+6x11 6,13+14x2\n6,4+14x9\nyes\nno\nno\n"},
		{three, []string{"size", "size"}, "10x9\n10x9\n"},
		{three, []string{"rects 0x0", "parcels 0x0", "left 0x0", "fits 0x0"}, "0,0+0x0 0,0+0x0 0,0+0x0\n0,0+0x0 0,0+0x0 0,0+0x0\n0,0+0x0\nno\n"},
		{three, []string{"rects 400x0", "parcels 0x400", "left 400x400", "fits 400x400"}, "195,0+10x0 0,0+6x0 201,0+3x0\n0,0+0x4 0,4+0x396 0,398+0x2\n6,4+394x394\nyes\n"},
		// The first number is the width.
		{three, []string{"parcels 5x3", "left 3x5"}, "0,0+5x3 0,3+5x0 5,3+0x0\n3,4+0x0\n"},
		{grown, []string{"size", "rects 10x8", "parcels 10x8", "left 10x8", "fits 6x3"}, "6x3\n0,0+10x2 3,4+3x1\n0,0+10x2 0,2+10x6\n10,2+0x6\nyes\n"},
		// No items need nothing, leave all, and fit always.
		{"", []string{"size", "rects 5x7", "parcels 5x7", "left 5x7", "fits 0x0", "what", ""}, "0x0\n\n\n0,0+5x7\nyes\nwhat\nwhat\n"},
		{"top 0 0 anchor 0\n", []string{"size", "rects 5x6", "parcels 5x6", "left 5x6", "fits 0x0"}, "0x0\n0,0+0x0\n0,0+5x0\n0,0+5x6\nyes\n"},
		{three, []string{"", "help", "fits 401x1", "fits 1x401", "fits 10", "rects 020x15", "rects 20x015", "rects 20x15 ", "size ", "size 1x1", "rects\xff 1x1"}, strings.Repeat("what\n", 11)},
		{"x", []string{"size", "", "help", "rects 5x5", "left 1x401"}, strings.Repeat("wrong\n", 5)},
		{"top 10 4", []string{"size", ""}, "wrong\nwrong\n"}, {"\n", []string{"size"}, "wrong\n"}, {three + "\n", []string{"size"}, "wrong\n"},
	} {
		if got := impl.RunDesk(c.text, c.lines); got != c.want {
			t.Errorf("RunDesk(%q, %q) = %q, not %q", c.text, c.lines, got, c.want)
		}
	}
}

func TestRunDeskTellsPackings(t *testing.T) {
	for _, c := range packings() {
		lines := append(roomLines(size{c.w, c.h}), "what")
		want := strings.Join([]string{wantRectTexts(c.rects), wantRectTexts(c.parcels), wantRectText(c.left), map[bool]string{true: "yes", false: "no"}[c.fits], "what"}, "\n") + "\n"
		if got := impl.RunDesk(listText(c.list), lines); got != want {
			t.Errorf("RunDesk(%q, %q) = %q, not %q", listText(c.list), lines, got, want)
		}
	}
}

func TestRunDesk(t *testing.T) {
	for _, list := range fewLists() {
		text, lines := listText(list), []string{"size"}
		for _, s := range sizesFor(list) {
			lines = append(lines, roomLines(s)...)
		}
		inDesks(lines, func(part []string) {
			if got, want := impl.RunDesk(text, part), wantDesk(text, part); got != want {
				t.Errorf("RunDesk(%q, %q) = %q, not %q", text, part, got, want)
			}
		})
	}
}

func TestRunDeskSizes(t *testing.T) {
	text := "top 10 4\nleft 6 5 expand\nbottom 3 2\n"
	var lines []string
	for n := range impl.MaxSide + 2 {
		lines = append(lines, roomLines(size{n, 9})...)
		lines = append(lines, roomLines(size{10, n})...)
		lines = append(lines, fmt.Sprintf("left 0%dx9", n), fmt.Sprintf("left 9x0%d", n), fmt.Sprintf("left -%dx9", n), fmt.Sprintf("left 9x+%d", n))
	}
	inDesks(lines, func(part []string) {
		if got, want := impl.RunDesk(text, part), wantDesk(text, part); got != want {
			t.Errorf("RunDesk(%q, %q) = %q, not %q", text, part, got, want)
		}
	})
}

func TestRunDeskOtherLines(t *testing.T) {
	for _, text := range []string{"", "top 10 4\n", listText(mixedLists()[6])} {
		inDesks(badDeskLines(), func(part []string) {
			if got, want := impl.RunDesk(text, part), strings.Repeat("what\n", len(part)); got != want {
				t.Errorf("RunDesk(%q, %q) = %q", text, part, got)
			}
		})
	}
}

func TestRunDeskNearLines(t *testing.T) {
	text := "top 10 4\nleft 6 5\nbottom 3 2\n"
	answered := 0
	for _, line := range []string{"size", "rects 20x15", "parcels 0x0", "left 400x400", "fits 10x9", "fits 1x1", "left 39x101"} {
		for _, near := range slices.Concat(nearBytes(line), nearWords(line), []string{strings.Repeat(line, 10000)}) {
			got, want := impl.RunDesk(text, []string{near}), wantDesk(text, []string{near})
			if got != want {
				t.Errorf("RunDesk(%q, %q) = %q, not %q", text, near, got, want)
			}
			if want != "what\n" {
				answered++
			}
		}
	}
	if answered < 20 {
		t.Errorf("%d lines are answered", answered)
	}
}

func TestRunDeskWrong(t *testing.T) {
	lines := append([]string{"size", "rects 5x5", "parcels 5x5", "left 5x5", "fits 5x5", "", "help", "rects", "left 5x401", "\xff"}, badDeskLines()[:10]...)
	for _, text := range badListTexts() {
		for many := range impl.MaxDesk + 1 {
			if got := impl.RunDesk(text, lines[:many]); got != strings.Repeat("wrong\n", many) {
				t.Errorf("RunDesk(%.200q, %q) = %q", text, lines[:many], got)
			}
		}
	}
}

func TestRunDeskAtTheLimits(t *testing.T) {
	for _, text := range []string{"", "top 10 4\n", strings.Repeat("right 30 30 anchor 8 padx 10 pady 10\n", 7), strings.Repeat("top 1 1\n", 8), "x"} {
		for _, line := range []string{"size", "left 5x5", "help", ""} {
			for many := impl.MaxDesk - 1; many <= impl.MaxDesk+3; many++ {
				lines := slices.Repeat([]string{line}, many)
				want := ""
				if many <= 20 {
					want = wantDesk(text, lines)
				}
				if got := impl.RunDesk(text, lines); got != want {
					t.Errorf("RunDesk(%q, %q) = %q, not %q", text, lines, got, want)
				}
			}
			if got := impl.RunDesk(text, slices.Repeat([]string{line}, 5000)); got != "" {
				t.Errorf("RunDesk(%q, %q again and again) = %q", text, line, got)
			}
		}
	}
	full := strings.Repeat("right 30 30 anchor 8 padx 10 pady 10\n", 7)
	if got, want := impl.RunDesk(full, []string{"size", "fits 350x50", "fits 349x50", "left 400x400"}), "350x50\nyes\nno\n0,0+50x400\n"; got != want {
		t.Errorf("RunDesk(%q) = %q, not %q", full, got, want)
	}
}

func TestRunDeskChangesNothing(t *testing.T) {
	all := []string{"size", "rects 5x5", "", "help", "left 5x5", "spare", "more"}
	before := slices.Clone(all)
	for _, text := range []string{"", "top 1 1\n", "x"} {
		first := impl.RunDesk(text, all[:5])
		if again := impl.RunDesk(text, all[:5]); again != first {
			t.Errorf("RunDesk(%q) = %q, and then %q", text, first, again)
		}
	}
	if !slices.Equal(all, before) {
		t.Errorf("%q has become %q", before, all)
	}
}
