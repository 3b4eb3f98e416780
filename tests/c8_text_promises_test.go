package tests

import (
	"slices"
	"strings"
	"testing"

	"loop.example/widgetroom/impl"
)

func TestPromise62ItemsAreReadBack(t *testing.T) {
	texts := map[string]impl.Pack{}
	for _, p := range slices.Concat(goodItems(), fieldItems(), textItems()) {
		text := impl.PackText(p)
		if got, ok := impl.ParsePack(text); !ok || got != p {
			t.Errorf("ParsePack(%q) = %+v, %v, not %+v", text, got, ok, p)
		}
		if other, told := texts[text]; text == "" || told && other != p {
			t.Errorf("PackText(%+v) = %q, as of %+v", p, text, other)
		}
		texts[text] = p
	}
	if len(texts) < 10000 {
		t.Errorf("only %d items are tried", len(texts))
	}
}

func TestPromise63ItemsAreWrittenBack(t *testing.T) {
	some, others := 0, 0
	for _, text := range nearTexts() {
		p, ok := impl.ParsePack(text)
		if !ok {
			others++
			continue
		}
		some++
		if got := impl.PackText(p); got != text || !impl.ValidPack(p) {
			t.Errorf("ParsePack(%q) = %+v, but its text is %q", text, p, got)
		}
	}
	if some == 0 || others == 0 {
		t.Errorf("%d texts are those of items, and %d are not", some, others)
	}
}

func TestPromise64LinesAreItems(t *testing.T) {
	texts := badListTexts()
	for _, list := range goodLists() {
		text := listText(list)
		if _, ok := impl.ParsePacks(text); !ok {
			t.Errorf("ParsePacks(%q) fails", text)
		}
		texts = append(texts, text, text+"\n", text+"top 1 1\n", "left 1 1"+text)
	}
	for _, list := range mixedLists()[:14] {
		texts = append(texts, nearBytes(listText(list))...)
	}
	some, others := 0, 0
	for _, text := range texts {
		list, ok := impl.ParsePacks(text)
		if !ok {
			others++
			continue
		}
		some++
		back := ""
		for _, p := range list {
			back += impl.PackText(p) + "\n"
		}
		if back != text || len(list) > impl.MaxPacks {
			t.Errorf("ParsePacks(%q) = %+v, whose texts are %q", text, list, back)
		}
	}
	if some == 0 || others == 0 {
		t.Errorf("%d texts are those of items, and %d are not", some, others)
	}
}

func TestPromise65RectanglesAreToldApart(t *testing.T) {
	texts := map[string]impl.Rect{}
	further, belowZero := 0, 0
	for _, r := range validRects() {
		text := impl.RectText(r)
		if other, told := texts[text]; text == "" || told && other != r {
			t.Errorf("RectText(%v) = %q, as of %v", r, text, other)
		}
		texts[text] = r
		for _, by := range []stretch{{1, 0}, {0, 1}, {-1, 0}, {0, -1}, {1, 1}, {1, -1}, {-1, 1}, {-1, -1}} {
			moved, ok := impl.MoveRect(r, by.at, by.size)
			if !ok {
				continue
			}
			further++
			if moved.X < 0 || moved.Y < 0 {
				belowZero++
			}
			if got := impl.RectText(moved); got == text || got == "" {
				t.Errorf("RectText(%v) = %q, as of %v", moved, got, r)
			}
		}
	}
	if further == 0 || belowZero == 0 {
		t.Errorf("%d rectangles are one further, and %d of them begin below 0", further, belowZero)
	}
}

func TestPromise66EachLineHasAnAnswer(t *testing.T) {
	asked := []string{"size", "rects 20x15", "", "parcels 20x15", "help", "left 9x9", "fits 9x9", "size\n", "\n\n", "rects 0x0", "rects 401x0", "\xff", "fits 400x400", "left", "left 5x5\n", "parcels 400x400", "fits 07x7", "size", "rects 1x1", "left 0x400"}
	if len(asked) != impl.MaxDesk {
		t.Fatalf("%d lines are asked", len(asked))
	}
	texts := badListTexts()
	for _, list := range fewLists() {
		texts = append(texts, listText(list))
	}
	for n, text := range texts {
		// The lines begin with another one each time.
		lines := slices.Concat(asked[n%len(asked):], asked[:n%len(asked)])
		all := impl.RunDesk(text, lines)
		for many := range len(lines) + 1 {
			got := impl.RunDesk(text, lines[:many])
			if strings.Count(got, "\n") != many || !strings.HasPrefix(all, got) || many > 0 && !strings.HasSuffix(got, "\n") {
				t.Errorf("RunDesk(%.200q, %q) = %q, and of all lines %q", text, lines[:many], got, all)
			}
		}
	}
}
