package tests

import (
	"fmt"
	"regexp"
	"slices"
	"strconv"
	"strings"

	"loop.example/widgetroom/impl"
)

// textItems returns items for whose texts others are tried that are nearly the same: with few words and many, and numbers at their limits.
func textItems() []impl.Pack {
	list := []impl.Pack{
		item(impl.SdTop, 0, 0), item(impl.SdBottom, 30, 9), item(impl.SdLeft, 10, 30), growing(impl.SdRight, 1, 20), {}, {Side: impl.SdBottom, Anchor: 8},
		{Side: impl.SdRight, W: 30, H: 30, FillX: true, FillY: true, Expand: true, PadX: 10, PadY: 10}, {Side: impl.SdLeft, W: 4, H: 4, FillX: true, Anchor: 4, PadX: 4, PadY: 4}, {Side: impl.SdTop, W: 3, H: 29, FillY: true, Anchor: 3, PadY: 1}, {W: 1, H: 1, Anchor: 5, PadX: 9},
	}
	return append(list, slices.Concat(mixedLists()[:20]...)...)
}

// fieldItems returns items in which two numbers, or one number and all that is true or false, are tried with each other.
func fieldItems() []impl.Pack {
	var list []impl.Pack
	for side := range 4 {
		for w := range impl.MaxWish + 1 {
			for h := range impl.MaxWish + 1 {
				list = append(list, item(side, w, h))
			}
		}
	}
	for anchor := range 9 {
		for padX := range impl.MaxPad + 1 {
			for padY := range impl.MaxPad + 1 {
				list = append(list, impl.Pack{Side: anchor % 4, W: padY, H: padX, Anchor: anchor, PadX: padX, PadY: padY, FillX: padX%2 > 0, FillY: padY%2 > 0, Expand: anchor%2 > 0})
			}
		}
	}
	return list
}

// textNumbers returns words that are no numbers, or not as the document writes them, or greater or less than all limits.
func textNumbers() []string {
	list := []string{"", "-", "+", "x", "-1", "-0", "+1", "+0", "00", "01", "007", "1_0", "0x1", "0b1", "1e1", "1.", "1.0", ".5", "1,0", "a", "1a", "a1", "1\x00", "\x00", "\xff", "1\xff", "\xb1", "१", "١", "１", "²", "½", "1\t", "1\r", "one", "/", ":", "1/", "1:", "401", "999", "1000", "4000", "18446744073709551616", "18446744073709551617", "9223372036854775808", "340282366920938463463374607431768211457"}
	for _, n := range greatNumbers() {
		list = append(list, strconv.Itoa(n))
	}
	return append(list, strings.Repeat("0", 30)+"1", strings.Repeat("1", 40), "1"+strings.Repeat("0", 64), strings.Repeat("9", 2000))
}

// oddBytes are bytes of texts and lines, and such that no text has, put anywhere.
const oddBytes = " 0149-+,xX_aeptyz\n\r\t\x00\x80\xff"

// nearBytes returns a text with one byte left out, changed, or put between others, or with all behind it left out.
func nearBytes(text string) []string {
	var list []string
	for i := range len(text) + 1 {
		list = append(list, text[:i], text[i:])
		if i < len(text) {
			list = append(list, text[:i]+text[i+1:], text[:i]+text[i:i+1]+text[i:])
		}
		for _, odd := range []byte(oddBytes) {
			list = append(list, text[:i]+string([]byte{odd})+text[i:])
			if i < len(text) {
				list = append(list, text[:i]+string([]byte{odd})+text[i+1:])
			}
		}
	}
	return append(list, strings.ToUpper(text), strings.ToTitle(text), text+text, text+" "+text, text+"é", "é"+text, text+"\u00a0", strings.ReplaceAll(text, " ", "\u00a0"), strings.ReplaceAll(text, " ", ""), strings.ReplaceAll(text, " ", "  "))
}

// nearWords returns a text with words in another order, left out, twice, or with others in their places.
func nearWords(text string) []string {
	var list []string
	words := strings.Split(text, " ")
	add := func(words ...[]string) { list = append(list, strings.Join(slices.Concat(words...), " ")) }
	for i := range words {
		ahead, this, behind := words[:i], words[i:i+1], words[i+1:]
		add(ahead, behind)
		add(ahead, this, this, behind)
		add(behind, this, ahead)
		for _, other := range append([]string{"top", "fillx", "filly", "expand", "anchor", "padx", "pady", "fill", "0", "4"}, textNumbers()...) {
			add(ahead, []string{other}, behind)
			add(ahead, []string{other}, this, behind)
		}
		for j := range i {
			swapped := slices.Clone(words)
			swapped[i], swapped[j] = swapped[j], swapped[i]
			add(swapped)
		}
	}
	return list
}

// nearTexts returns texts that are nearly those of items, and some that are.
func nearTexts() []string {
	var list []string
	for _, p := range textItems() {
		text := wantText(p)
		list = append(list, text)
		list = append(list, nearBytes(text)...)
		list = append(list, nearWords(text)...)
	}
	return append(list, wordRows("top 1 1", 4, "fillx", "filly", "expand", "anchor", "padx", "pady", "0", "4", "10", "11", "")...)
}

// wordRows returns a text with up to so many words behind it, in all orders.
func wordRows(text string, many int, words ...string) []string {
	list := []string{text}
	if many == 0 {
		return list
	}
	for _, word := range words {
		list = append(list, wordRows(text+" "+word, many-1, words...)...)
	}
	return list
}

// listText returns the text of items that are the lines.
func listText(list []impl.Pack) string {
	text := ""
	for _, p := range list {
		text += wantText(p) + "\n"
	}
	return text
}

// fewLists returns some of the lists that can be packed, of all sorts.
func fewLists() [][]impl.Pack {
	var lists [][]impl.Pack
	for i, list := range goodLists() {
		if i < 160 || i%9 == 0 || len(list) == impl.MaxPacks {
			lists = append(lists, list)
		}
	}
	return lists
}

// badListTexts returns texts of items that are not all read.
func badListTexts() []string {
	seven := strings.Repeat("top 1 1\n", impl.MaxPacks)
	list := []string{
		"\n", "\n\n", " ", " \n", "x", "x\n", "top 1 1", "top 1 1\n ", "top 1 1\nx", "top 1 1\n\n", "\ntop 1 1\n", "top 1 1\n\ntop 1 1\n", "top 1 1\ntop 1 1", "top 1 1\r\n", "top 1 1\n\r", "top 1 1 \n", " top 1 1\n", "top 1 1\n top 1 1\n", "top 1 1\x00\n", "top 1 1\n\x00", "\xff\n", "top 1 1\v", "top 1 1\u2028", "top 1 1 top 1 1\n", "top 1 1\\n",
		seven + seven[:8], seven + "x\n", seven + "\n", seven + "x", seven + "top 1 1", seven + " ", seven[:len(seven)-1], seven + seven, strings.Repeat("top 1 1\n", 100000), strings.Repeat("\n", 100000), strings.Repeat("9", 100000), strings.Repeat(" ", 100000), strings.Repeat("top 1 1 ", 100000),
	}
	for _, bad := range []string{"", "top", "top 1", "top 1 31", "top 01 1", "top 1 1 anchor 4", "top 1 1 padx 0", "top 1 1 filly fillx", "top 1 1 expand expand"} {
		for at := range impl.MaxPacks {
			lines := slices.Repeat([]string{"left 2 2"}, impl.MaxPacks)
			lines[at] = bad
			list = append(list, strings.Join(lines, "\n")+"\n", strings.Join(lines[at:], "\n")+"\n", strings.Join(lines[:at+1], "\n")+"\n")
		}
	}
	return list
}

// roomLines returns the lines that ask about items in a size.
func roomLines(s size) []string {
	var list []string
	for _, word := range []string{"rects", "parcels", "left", "fits"} {
		list = append(list, fmt.Sprintf("%s %dx%d", word, s.w, s.h))
	}
	return list
}

// badDeskLines returns lines that are no questions.
func badDeskLines() []string {
	list := []string{
		"", " ", "x", "\n", "what", "wrong", "help", "yes", "size ", " size", "sizes", "siz", "Size", "SIZE", "size size", "size 5x5", "size 0x0", "size\n", "size\x00", "sizex", "5x5", " 5x5", "top 1 1", "size rects 5x5",
		"rects", "rects ", "rects 5", "rects 5x", "rects x5", "rects x", "rects 5 5", "rects 5 x5", "rects 5x 5", "rects 5x5 ", "rects  5x5", " rects 5x5", "rects 5x5x", "rects 5x5x5", "rects 5xx5", "rects x5x5", "rects 5X5", "rects 5*5", "rects 5×5", "rects5x5", "rects\t5x5", "rects 5x5\n", "rects 5x5\r", "rects 5x5 6x6", "rects 5x5 fits", "rects fits 5x5", "rect 5x5", "rectss 5x5", "Rects 5x5", "rects,5x5", "\xffrects 5x5", "rects 5x5\xff", "rects \xff5x5", "rects 5\xffx5",
		"left", "left ", "fits", "fits 10", "fits 401x1", "fits 1x401", "parcels", "parcels 5x5 size", "left 5x5 5", "request 5x5", "pack 5x5",
	}
	for _, number := range textNumbers() {
		for _, word := range []string{"rects", "parcels", "left", "fits"} {
			list = append(list, word+" "+number+"x5", word+" 5x"+number, word+" "+number+"x"+number)
		}
	}
	return list
}

// inDesks calls a function with parts of lines that are no more than a desk can have, in order.
func inDesks(lines []string, do func(part []string)) {
	for part := range slices.Chunk(lines, impl.MaxDesk) {
		do(part)
	}
}

// The functions below say what the document says, as directly as they can.

// wantText returns the text of an item.
func wantText(p impl.Pack) string {
	text := fmt.Sprintf("%s %d %d", []string{"top", "bottom", "left", "right"}[p.Side], p.W, p.H)
	if p.FillX {
		text += " fillx"
	}
	if p.FillY {
		text += " filly"
	}
	if p.Expand {
		text += " expand"
	}
	if p.Anchor != 4 {
		text += fmt.Sprintf(" anchor %d", p.Anchor)
	}
	if p.PadX != 0 {
		text += fmt.Sprintf(" padx %d", p.PadX)
	}
	if p.PadY != 0 {
		text += fmt.Sprintf(" pady %d", p.PadY)
	}
	return text
}

// itemPattern is all texts of items, with their words.
var itemPattern = regexp.MustCompile(`\A(top|bottom|left|right) (0|[1-9]|[12][0-9]|30) (0|[1-9]|[12][0-9]|30)( fillx)?( filly)?( expand)?(?: anchor ([0-35-8]))?(?: padx ([1-9]|10))?(?: pady ([1-9]|10))?\z`)

// linePattern is all lines that ask about items in a size, with its numbers.
var linePattern = regexp.MustCompile(`\A(rects|parcels|left|fits) (0|[1-9][0-9]?|[123][0-9][0-9]|400)x(0|[1-9][0-9]?|[123][0-9][0-9]|400)\z`)

// numberIn returns the number of a part of a text, or else another one.
func numberIn(part string, other int) int {
	if part == "" {
		return other
	}
	n, err := strconv.Atoi(part)
	if err != nil {
		panic(err)
	}
	return n
}

// wantItem returns the item of a text.
func wantItem(s string) (impl.Pack, bool) {
	m := itemPattern.FindStringSubmatch(s)
	if m == nil {
		return impl.Pack{}, false
	}
	sides := map[string]int{"top": impl.SdTop, "bottom": impl.SdBottom, "left": impl.SdLeft, "right": impl.SdRight}
	return impl.Pack{
		Side: sides[m[1]], W: numberIn(m[2], -1), H: numberIn(m[3], -1), FillX: m[4] != "", FillY: m[5] != "", Expand: m[6] != "",
		Anchor: numberIn(m[7], 4), PadX: numberIn(m[8], 0), PadY: numberIn(m[9], 0),
	}, true
}

// wantItems returns the items of the lines of a text.
func wantItems(s string) ([]impl.Pack, bool) {
	lines := strings.Split(s, "\n")
	last := len(lines) - 1
	if lines[last] != "" || last > 7 {
		return nil, false
	}
	var list []impl.Pack
	for _, line := range lines[:last] {
		p, ok := wantItem(line)
		if !ok {
			return nil, false
		}
		list = append(list, p)
	}
	return list, true
}

// wantRectText returns the text of a rectangle.
func wantRectText(r impl.Rect) string {
	return fmt.Sprintf("%d,%d+%dx%d", r.X, r.Y, r.W, r.H)
}

// wantRectTexts returns the texts of rectangles.
func wantRectTexts(rects []impl.Rect) string {
	text := ""
	for i, r := range rects {
		if i > 0 {
			text += " "
		}
		text += wantRectText(r)
	}
	return text
}

// wantAnswer returns the answer to a line about items.
func wantAnswer(list []impl.Pack, line string) string {
	m := linePattern.FindStringSubmatch(line)
	if m == nil {
		if line != "size" {
			return "what"
		}
		w, h := wantRequest(list)
		return fmt.Sprintf("%dx%d", w, h)
	}
	parcels, left := wantParcels(list, numberIn(m[2], -1), numberIn(m[3], -1))
	var rects []impl.Rect
	fits := "yes"
	for i, p := range list {
		r := wantRect(p, parcels[i])
		rects = append(rects, r)
		if r.W < p.W || r.H < p.H {
			fits = "no"
		}
	}
	return map[string]string{"rects": wantRectTexts(rects), "parcels": wantRectTexts(parcels), "left": wantRectText(left), "fits": fits}[m[1]]
}

// wantDesk returns the answers to lines about the items of a text.
func wantDesk(s string, lines []string) string {
	list, ok := wantItems(s)
	text := ""
	for _, line := range lines {
		if ok {
			text += wantAnswer(list, line) + "\n"
		} else {
			text += "wrong\n"
		}
	}
	return text
}
