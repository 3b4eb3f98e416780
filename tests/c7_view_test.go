package tests

import (
	"slices"
	"testing"

	"loop.example/widgetroom/impl"
)

func TestViewConstants(t *testing.T) {
	if impl.MaxPanes != 6 || impl.MaxTotal != 500 {
		t.Error("the limits are not those of the document")
	}
}

func TestValidPanes(t *testing.T) {
	for _, p := range goodPanes() {
		if !impl.ValidPanes(p) {
			t.Errorf("ValidPanes(%v) = false", p)
		}
	}
	for _, p := range badPanes() {
		if impl.ValidPanes(p) {
			t.Errorf("ValidPanes(%v) = true", p)
		}
	}
}

func TestDragSashExamples(t *testing.T) {
	three := panes(sizesOf(10, 8, 6), 2, 5, 0)
	least := panes(slices.Repeat([]int{30}, 6), slices.Repeat([]int{30}, 6)...)
	six := panes(sizesOf(70, 60, 80, 50, 90, 50), 0, 10, 20, 30, 5, 1)
	greatest := panes(sizesOf(400, 0), 0, 0)
	for _, c := range []struct {
		p        impl.Panes
		sash, by int
		want     []int
	}{
		{three, 0, 0, sizesOf(10, 8, 6)}, {three, 1, 0, sizesOf(10, 8, 6)},
		{three, 0, 1, sizesOf(11, 7, 6)}, {three, 0, 3, sizesOf(13, 5, 6)}, {three, 0, 4, sizesOf(14, 5, 5)}, {three, 0, 9, sizesOf(19, 5, 0)}, {three, 0, 10, sizesOf(19, 5, 0)}, {three, 0, 400, sizesOf(19, 5, 0)},
		{three, 0, -1, sizesOf(9, 9, 6)}, {three, 0, -8, sizesOf(2, 16, 6)}, {three, 0, -9, sizesOf(2, 16, 6)}, {three, 0, -400, sizesOf(2, 16, 6)},
		{three, 1, 1, sizesOf(10, 9, 5)}, {three, 1, 6, sizesOf(10, 14, 0)}, {three, 1, 7, sizesOf(10, 14, 0)},
		// The panes ahead have less from the sash back to the first one, and not the other way round.
		{three, 1, -1, sizesOf(10, 7, 7)}, {three, 1, -3, sizesOf(10, 5, 9)}, {three, 1, -4, sizesOf(9, 5, 10)}, {three, 1, -11, sizesOf(2, 5, 17)}, {three, 1, -12, sizesOf(2, 5, 17)},
		// At their least sizes panes give nothing, and get what others have.
		{least, 0, 400, least.Sizes}, {least, 2, -400, least.Sizes}, {least, 4, 1, least.Sizes}, {least, 4, -1, least.Sizes},
		{panes(sizesOf(5, 4, 9, 4, 5), 5, 4, 3, 4, 5), 0, 7, sizesOf(11, 4, 3, 4, 5)}, {panes(sizesOf(5, 4, 9, 4, 5), 5, 4, 3, 4, 5), 3, -7, sizesOf(5, 4, 3, 4, 11)},
		{panes(sizesOf(5, 4, 9, 4, 5), 5, 4, 3, 4, 5), 1, 2, sizesOf(5, 6, 7, 4, 5)}, {panes(sizesOf(5, 4, 9, 4, 5), 5, 4, 3, 4, 5), 1, -2, sizesOf(5, 4, 9, 4, 5)},
		{six, 2, 100, sizesOf(70, 60, 180, 30, 10, 50)}, {six, 2, 105, sizesOf(70, 60, 185, 30, 5, 50)}, {six, 2, 150, sizesOf(70, 60, 230, 30, 5, 5)}, {six, 2, 154, sizesOf(70, 60, 234, 30, 5, 1)}, {six, 2, 155, sizesOf(70, 60, 234, 30, 5, 1)},
		{six, 2, -70, sizesOf(70, 50, 20, 120, 90, 50)}, {six, 2, -180, sizesOf(0, 10, 20, 230, 90, 50)}, {six, 2, -181, sizesOf(0, 10, 20, 230, 90, 50)}, {six, 4, 60, sizesOf(70, 60, 80, 50, 139, 1)}, {six, 0, -70, sizesOf(0, 130, 80, 50, 90, 50)},
		{greatest, 0, -400, sizesOf(0, 400)}, {greatest, 0, 400, sizesOf(400, 0)}, {greatest, 0, -399, sizesOf(1, 399)}, {panes(sizesOf(0, 400), 0, 0), 0, 400, sizesOf(400, 0)}, {panes(sizesOf(0, 400), 0, 30), 0, 400, sizesOf(370, 30)},
		{panes(sizesOf(0, 0), 0, 0), 0, 5, sizesOf(0, 0)}, {panes(sizesOf(0, 0), 0, 0), 0, -5, sizesOf(0, 0)},
	} {
		if got := impl.DragSash(c.p, c.sash, c.by); !samePanes(got, panes(c.want, c.p.Mins...)) {
			t.Errorf("DragSash(%v, %d, %d) = %v, not %v", c.p, c.sash, c.by, got, c.want)
		}
	}
}

func TestDragSash(t *testing.T) {
	eachDrag(func(p impl.Panes, sash, by int) {
		want := panes(wantDragged(p, sash, by), p.Mins...)
		if got := impl.DragSash(p, sash, by); !samePanes(got, want) {
			t.Errorf("DragSash(%v, %d, %d) = %v, not %v", p, sash, by, got, want)
		}
	})
}

func TestDragSashAndBack(t *testing.T) {
	others := 0
	eachDrag(func(p impl.Panes, sash, by int) {
		before := impl.SashAt(p, sash)
		there := impl.DragSash(p, sash, by)
		back := impl.DragSash(there, sash, before-impl.SashAt(there, sash))
		if impl.SashAt(back, sash) != before {
			t.Errorf("DragSash(%v, %d, %d) and back = %v", p, sash, by, back)
		}
		// Of the panes that gave something the nearest one gets it all.
		if !samePanes(back, p) {
			others++
		}
	})
	if others == 0 {
		t.Error("no panes have other sizes when a sash is back")
	}
}

func TestSashAtAndPaneAtExamples(t *testing.T) {
	p := panes(sizesOf(0, 10, 0, 0, 8, 0), 0, 2, 0, 0, 5, 0)
	for sash, want := range []int{0, 10, 10, 10, 18, -1, -1} {
		if got := impl.SashAt(p, sash); got != want {
			t.Errorf("SashAt(%v, %d) = %d, not %d", p, sash, got, want)
		}
	}
	for _, c := range []struct{ n, want int }{{-1, -1}, {0, 1}, {9, 1}, {10, 4}, {17, 4}, {18, -1}, {19, -1}} {
		if got := impl.PaneAt(p, c.n); got != c.want {
			t.Errorf("PaneAt(%v, %d) = %d, not %d", p, c.n, got, c.want)
		}
	}
	for _, c := range []struct {
		p       impl.Panes
		n, want int
	}{{panes(sizesOf(0), 0), 0, -1}, {panes(sizesOf(1), 0), 0, 0}, {panes(sizesOf(1), 0), 1, -1}, {panes(sizesOf(400), 30), 399, 0}, {panes(sizesOf(400), 30), 400, -1}, {panes(sizesOf(399, 1), 30, 1), 398, 0}, {panes(sizesOf(399, 1), 30, 1), 399, 1}, {panes(make([]int, 6), make([]int, 6)...), 0, -1}} {
		if got := impl.PaneAt(c.p, c.n); got != c.want {
			t.Errorf("PaneAt(%v, %d) = %d, not %d", c.p, c.n, got, c.want)
		}
	}
}

func TestSashAt(t *testing.T) {
	for _, p := range goodPanes() {
		for sash := range len(p.Sizes) - 1 {
			if got, want := impl.SashAt(p, sash), wantSash(p, sash); got != want {
				t.Errorf("SashAt(%v, %d) = %d, not %d", p, sash, got, want)
			}
		}
	}
}

func TestPaneAt(t *testing.T) {
	for _, p := range goodPanes() {
		owners := ownersOf(p)
		for n, want := range owners {
			if got := impl.PaneAt(p, n); got != want {
				t.Errorf("PaneAt(%v, %d) = %d, not %d", p, n, got, want)
			}
		}
		for _, n := range beyond(0, len(owners)-1) {
			if got := impl.PaneAt(p, n); got != -1 {
				t.Errorf("PaneAt(%v, %d) = %d", p, n, got)
			}
		}
	}
}

func TestResizePanesExamples(t *testing.T) {
	three := panes(sizesOf(10, 8, 6), 2, 5, 0)
	least := panes(slices.Repeat([]int{30}, 6), slices.Repeat([]int{30}, 6)...)
	for _, c := range []struct {
		p    impl.Panes
		room int
		want []int
	}{
		{three, 24, sizesOf(10, 8, 6)}, {three, 25, sizesOf(10, 8, 7)}, {three, 400, sizesOf(10, 8, 382)},
		{three, 23, sizesOf(10, 8, 5)}, {three, 18, sizesOf(10, 8, 0)}, {three, 17, sizesOf(10, 7, 0)}, {three, 15, sizesOf(10, 5, 0)}, {three, 14, sizesOf(9, 5, 0)},
		// The room is just enough, and one less.
		{three, 8, sizesOf(3, 5, 0)}, {three, 7, sizesOf(2, 5, 0)}, {three, 6, nil}, {three, 0, nil},
		{least, 180, least.Sizes}, {least, 179, nil}, {least, 181, sizesOf(30, 30, 30, 30, 30, 31)}, {least, 400, sizesOf(30, 30, 30, 30, 30, 250)},
		{panes(sizesOf(0), 0), 0, sizesOf(0)}, {panes(sizesOf(0), 0), 400, sizesOf(400)}, {panes(sizesOf(9), 3), 3, sizesOf(3)}, {panes(sizesOf(9), 3), 2, nil}, {panes(sizesOf(400), 1), 0, nil}, {panes(sizesOf(400), 0), 0, sizesOf(0)},
		// Panes at their least sizes are passed over.
		{panes(sizesOf(9, 4, 9, 4, 5), 0, 4, 3, 4, 5), 27, sizesOf(9, 4, 5, 4, 5)}, {panes(sizesOf(9, 4, 9, 4, 5), 0, 4, 3, 4, 5), 24, sizesOf(8, 4, 3, 4, 5)}, {panes(sizesOf(9, 4, 9, 4, 5), 0, 4, 3, 4, 5), 16, sizesOf(0, 4, 3, 4, 5)}, {panes(sizesOf(9, 4, 9, 4, 5), 0, 4, 3, 4, 5), 15, nil},
	} {
		want := panes(c.want, c.p.Mins...)
		if c.want == nil {
			want = impl.Panes{}
		}
		if got, ok := impl.ResizePanes(c.p, c.room); !samePanes(got, want) || ok != (c.want != nil) {
			t.Errorf("ResizePanes(%v, %d) = %v, %v, not %v", c.p, c.room, got, ok, c.want)
		}
	}
}

func TestResizePanes(t *testing.T) {
	eachResize(func(p impl.Panes, room int) {
		sizes, wantOk := wantResized(p, room)
		want := impl.Panes{}
		if wantOk {
			want = panes(sizes, p.Mins...)
		}
		if got, ok := impl.ResizePanes(p, room); !samePanes(got, want) || ok != wantOk {
			t.Errorf("ResizePanes(%v, %d) = %v, %v, not %v, %v", p, room, got, ok, want, wantOk)
		}
	})
}

// wantNoPanes checks that nothing is told of panes.
func wantNoPanes(t *testing.T, p impl.Panes, sash, by, n, room int) {
	t.Helper()
	dragged, at, pane := impl.DragSash(p, sash, by), impl.SashAt(p, sash), impl.PaneAt(p, n)
	resized, ok := impl.ResizePanes(p, room)
	if !samePanes(dragged, impl.Panes{}) || at != -1 || pane != -1 || !samePanes(resized, impl.Panes{}) || ok {
		t.Errorf("%v: %v, %d, %d, %v, %v", p, dragged, at, pane, resized, ok)
	}
}

func TestPanesInvalid(t *testing.T) {
	for _, p := range badPanes() {
		for sash := -1; sash <= 6; sash++ {
			for _, n := range []int{-1, 0, 1, 30, 400} {
				wantNoPanes(t, p, sash, n, n, n)
				wantNoPanes(t, p, sash, -n, 0, 400-n)
			}
		}
	}
}

func TestPanesInvalidArguments(t *testing.T) {
	for _, p := range append(edgePanes(), mixedPanes()...) {
		for _, sash := range beyond(0, len(p.Sizes)-2) {
			for _, by := range []int{0, 1, -1} {
				if got, at := impl.DragSash(p, sash, by), impl.SashAt(p, sash); !samePanes(got, impl.Panes{}) || at != -1 {
					t.Errorf("the sash %d of %v: %v, %d", sash, p, got, at)
				}
			}
		}
		for _, by := range beyond(-400, 400) {
			if got := impl.DragSash(p, 0, by); !samePanes(got, impl.Panes{}) {
				t.Errorf("DragSash(%v, 0, %d) = %v", p, by, got)
			}
		}
		for _, room := range beyond(0, 400) {
			if got, ok := impl.ResizePanes(p, room); !samePanes(got, impl.Panes{}) || ok {
				t.Errorf("ResizePanes(%v, %d) = %v, %v", p, room, got, ok)
			}
		}
	}
}

func TestSinglePanesHaveNoSash(t *testing.T) {
	for _, p := range []impl.Panes{panes(sizesOf(0), 0), panes(sizesOf(9), 3), panes(sizesOf(400), 30)} {
		for sash := -2; sash <= 6; sash++ {
			if got, at := impl.DragSash(p, sash, 0), impl.SashAt(p, sash); !samePanes(got, impl.Panes{}) || at != -1 {
				t.Errorf("the sash %d of %v: %v, %d", sash, p, got, at)
			}
		}
	}
}

func TestPanesAtTheLimits(t *testing.T) {
	p := panes(sizesOf(250, 30, 30, 30, 30, 30), slices.Repeat([]int{30}, 6)...)
	if got := impl.DragSash(p, 4, -400); !samePanes(got, panes(sizesOf(30, 30, 30, 30, 30, 250), p.Mins...)) || impl.SashAt(p, 4) != 370 || impl.PaneAt(p, 399) != 5 || impl.PaneAt(p, 400) != -1 {
		t.Errorf("DragSash(%v, 4, -400) = %v", p, got)
	}
	for _, bad := range []impl.Panes{
		panes(append(slices.Clone(p.Sizes), 0), append(slices.Clone(p.Mins), 0)...), panes(sizesOf(251, 30, 30, 30, 30, 30), p.Mins...), panes(sizesOf(250, 30, 30, 30, 30, 30), 31, 30, 30, 30, 30, 30), panes(sizesOf(250, 29, 30, 30, 30, 30), p.Mins...),
	} {
		if impl.ValidPanes(bad) {
			t.Errorf("ValidPanes(%v) = true", bad)
		}
		wantNoPanes(t, bad, 0, 0, 0, 400)
	}
}

// withSpare returns panes in one list with spare room between sizes and least sizes, and this list.
func withSpare(p impl.Panes) (impl.Panes, []int) {
	many := len(p.Sizes)
	all := slices.Concat(p.Sizes, []int{-55, -56}, p.Mins, []int{-57, -58})
	return impl.Panes{Sizes: all[:many], Mins: all[many+2 : 2*many+2]}, all
}

// wantApart checks that no panes that a call returns share memory, with each other or from call to call.
func wantApart(t *testing.T, what string, call func() impl.Panes) {
	t.Helper()
	wantFresh(t, what+": Sizes", -77, func() []int { return call().Sizes })
	wantFresh(t, what+": Mins", -77, func() []int { return call().Mins })
	got := call()
	want := copiedPanes(got)
	for _, list := range [][]int{got.Sizes, got.Mins} {
		list = list[:cap(list)]
		for i := range list {
			list[i] = -77
		}
		if slices.Equal(got.Sizes, want.Sizes) == slices.Equal(got.Mins, want.Mins) {
			t.Errorf("%s: %v has become %v", what, want, got)
		}
		copy(got.Sizes, want.Sizes)
		copy(got.Mins, want.Mins)
	}
}

func TestPanesShareNoMemory(t *testing.T) {
	for _, good := range append(edgePanes(), mixedPanes()...) {
		p, all := withSpare(good)
		before := slices.Clone(all)
		for _, by := range []int{0, 1, -1, 30, -400} {
			for sash := range len(p.Sizes) - 1 {
				wantApart(t, "DragSash", func() impl.Panes { return impl.DragSash(p, sash, by) })
				impl.SashAt(p, sash)
			}
		}
		for _, room := range []int{sumOf(p.Mins), sumOf(p.Sizes), 400} {
			wantApart(t, "ResizePanes", func() impl.Panes {
				resized, _ := impl.ResizePanes(p, room)
				return resized
			})
		}
		impl.ResizePanes(p, 0)
		impl.PaneAt(p, 0)
		impl.ValidPanes(p)
		if !slices.Equal(all, before) {
			t.Errorf("%v has become %v", before, all)
		}
	}
}

func TestPanesWithOneListForBoth(t *testing.T) {
	both := sizesOf(5, 9, 0)
	p := impl.Panes{Sizes: both, Mins: both}
	wantApart(t, "DragSash", func() impl.Panes { return impl.DragSash(p, 1, 3) })
	wantApart(t, "ResizePanes", func() impl.Panes {
		resized, _ := impl.ResizePanes(p, 20)
		return resized
	})
	if got, ok := impl.ResizePanes(p, 20); !ok || !samePanes(got, panes(sizesOf(5, 9, 6), 5, 9, 0)) || !slices.Equal(both, sizesOf(5, 9, 0)) {
		t.Errorf("ResizePanes(%v, 20) = %v, %v", p, got, ok)
	}
}

func TestValidView(t *testing.T) {
	for _, v := range goodViews() {
		if !impl.ValidView(v) {
			t.Errorf("ValidView(%v) = false", v)
		}
	}
	for _, v := range badViews() {
		if impl.ValidView(v) {
			t.Errorf("ValidView(%v) = true", v)
		}
	}
}

func TestScrollByExamples(t *testing.T) {
	for _, c := range []struct {
		v       impl.View
		n, want int
	}{
		{scrolled(50, 10, 20), 0, 20}, {scrolled(50, 10, 20), 1, 21}, {scrolled(50, 10, 20), -1, 19}, {scrolled(50, 10, 20), 20, 40}, {scrolled(50, 10, 20), 21, 40}, {scrolled(50, 10, 20), -20, 0}, {scrolled(50, 10, 20), -21, 0}, {scrolled(50, 10, 20), 500, 40}, {scrolled(50, 10, 20), -500, 0},
		{scrolled(500, 1, 0), 499, 499}, {scrolled(500, 1, 0), 500, 499}, {scrolled(500, 1, 499), -499, 0}, {scrolled(500, 1, 499), 1, 499}, {scrolled(500, 499, 0), 1, 1}, {scrolled(500, 499, 0), 2, 1}, {scrolled(500, 500, 0), 1, 0},
		{scrolled(3, 10, 0), 1, 0}, {scrolled(3, 10, 0), -1, 0}, {scrolled(3, 3, 0), 1, 0}, {scrolled(0, 1, 0), 1, 0}, {scrolled(0, 500, 0), 500, 0}, {scrolled(0, 500, 0), -500, 0},
	} {
		if got, want := impl.ScrollBy(c.v, c.n), scrolled(c.v.Total, c.v.Page, c.want); got != want {
			t.Errorf("ScrollBy(%v, %d) = %v, not %v", c.v, c.n, got, want)
		}
	}
}

func TestScrollBy(t *testing.T) {
	eachScroll(func(v impl.View, n int) {
		if got, want := impl.ScrollBy(v, n), wantFirst(v, v.First+n, anyFirst); got != want {
			t.Errorf("ScrollBy(%v, %d) = %v, not %v", v, n, got, want)
		}
	})
}

func TestMoveToExamples(t *testing.T) {
	for _, c := range []struct {
		v         impl.View
		rel, want int
	}{
		{scrolled(50, 10, 20), 0, 0}, {scrolled(50, 10, 20), 19, 0}, {scrolled(50, 10, 20), 20, 1}, {scrolled(50, 10, 20), 333, 16}, {scrolled(50, 10, 20), 500, 25}, {scrolled(50, 10, 20), 799, 39}, {scrolled(50, 10, 20), 800, 40}, {scrolled(50, 10, 20), 820, 40}, {scrolled(50, 10, 20), 1000, 40},
		// The thousandths are of all lines, and not of those from which on lines can be seen.
		{scrolled(500, 1, 0), 1, 0}, {scrolled(500, 1, 0), 2, 1}, {scrolled(500, 1, 0), 999, 499}, {scrolled(500, 1, 0), 1000, 499}, {scrolled(500, 250, 3), 499, 249}, {scrolled(500, 250, 3), 501, 250}, {scrolled(500, 499, 0), 1000, 1}, {scrolled(333, 7, 9), 999, 326}, {scrolled(333, 7, 9), 4, 1}, {scrolled(333, 7, 9), 3, 0},
		{scrolled(3, 10, 0), 1000, 0}, {scrolled(3, 3, 0), 500, 0}, {scrolled(0, 1, 0), 0, 0}, {scrolled(0, 1, 0), 1000, 0}, {scrolled(1, 1, 0), 1000, 0},
	} {
		if got, want := impl.MoveTo(c.v, c.rel), scrolled(c.v.Total, c.v.Page, c.want); got != want {
			t.Errorf("MoveTo(%v, %d) = %v, not %v", c.v, c.rel, got, want)
		}
	}
}

func TestMoveTo(t *testing.T) {
	for _, v := range goodViews() {
		for rel := 0; rel <= 1000; rel += 1 + rel%7 {
			if got, want := impl.MoveTo(v, rel), wantFirst(v, wantPart(1000, rel, v.Total), anyFirst); got != want {
				t.Errorf("MoveTo(%v, %d) = %v, not %v", v, rel, got, want)
			}
		}
	}
}

func TestSeeLineExamples(t *testing.T) {
	for _, c := range []struct {
		v       impl.View
		n, want int
	}{
		{scrolled(50, 10, 20), 20, 20}, {scrolled(50, 10, 20), 29, 20}, {scrolled(50, 10, 20), 30, 21}, {scrolled(50, 10, 20), 19, 19}, {scrolled(50, 10, 20), 0, 0}, {scrolled(50, 10, 20), 9, 9}, {scrolled(50, 10, 20), 49, 40}, {scrolled(50, 10, 20), 48, 39},
		{scrolled(500, 1, 7), 0, 0}, {scrolled(500, 1, 7), 7, 7}, {scrolled(500, 1, 7), 8, 8}, {scrolled(500, 1, 7), 499, 499}, {scrolled(500, 499, 0), 498, 0}, {scrolled(500, 499, 0), 499, 1}, {scrolled(500, 499, 1), 0, 0}, {scrolled(500, 499, 1), 1, 1}, {scrolled(500, 500, 0), 499, 0},
		{scrolled(3, 10, 0), 0, 0}, {scrolled(3, 10, 0), 2, 0}, {scrolled(3, 2, 0), 2, 1}, {scrolled(1, 1, 0), 0, 0}, {scrolled(1, 500, 0), 0, 0},
	} {
		if got, want := impl.SeeLine(c.v, c.n), scrolled(c.v.Total, c.v.Page, c.want); got != want {
			t.Errorf("SeeLine(%v, %d) = %v, not %v", c.v, c.n, got, want)
		}
	}
}

func TestSeeLine(t *testing.T) {
	eachLine(func(v impl.View, n int) {
		want := wantFirst(v, v.First, func(first int) bool { return first <= n && n < first+v.Page })
		if got := impl.SeeLine(v, n); got != want {
			t.Errorf("SeeLine(%v, %d) = %v, not %v", v, n, got, want)
		}
	})
}

func TestThumbOfExamples(t *testing.T) {
	for _, c := range []struct {
		v          impl.View
		begin, end int
	}{
		{scrolled(50, 10, 20), 400, 600}, {scrolled(50, 10, 0), 0, 200}, {scrolled(50, 10, 40), 800, 1000}, {scrolled(3, 1, 0), 0, 333}, {scrolled(3, 1, 1), 333, 666}, {scrolled(3, 1, 2), 666, 1000}, {scrolled(7, 2, 3), 428, 714},
		{scrolled(500, 1, 0), 0, 2}, {scrolled(500, 1, 499), 998, 1000}, {scrolled(499, 1, 498), 997, 1000}, {scrolled(499, 1, 1), 2, 4}, {scrolled(500, 499, 1), 2, 1000}, {scrolled(500, 500, 0), 0, 1000},
		{scrolled(3, 3, 0), 0, 1000}, {scrolled(3, 10, 0), 0, 1000}, {scrolled(1, 500, 0), 0, 1000}, {scrolled(0, 1, 0), 0, 1000}, {scrolled(0, 500, 0), 0, 1000},
	} {
		if begin, end := impl.ThumbOf(c.v); begin != c.begin || end != c.end {
			t.Errorf("ThumbOf(%v) = %d, %d, not %d, %d", c.v, begin, end, c.begin, c.end)
		}
	}
}

func TestThumbOf(t *testing.T) {
	for _, v := range goodViews() {
		wantBegin, wantEnd := wantThumb(v)
		if begin, end := impl.ThumbOf(v); begin != wantBegin || end != wantEnd {
			t.Errorf("ThumbOf(%v) = %d, %d, not %d, %d", v, begin, end, wantBegin, wantEnd)
		}
	}
}

func TestViewsInvalid(t *testing.T) {
	for _, v := range badViews() {
		for _, n := range []int{-500, -1, 0, 1, 4, 500} {
			by, to, seen := impl.ScrollBy(v, n), impl.MoveTo(v, n), impl.SeeLine(v, n)
			if by != (impl.View{}) || to != (impl.View{}) || seen != (impl.View{}) {
				t.Errorf("%v with %d: %v, %v, %v", v, n, by, to, seen)
			}
		}
		if begin, end := impl.ThumbOf(v); begin != -1 || end != -1 {
			t.Errorf("ThumbOf(%v) = %d, %d", v, begin, end)
		}
	}
}

func TestViewsInvalidArguments(t *testing.T) {
	for _, v := range goodViews() {
		for _, n := range beyond(-500, 500) {
			if got := impl.ScrollBy(v, n); got != (impl.View{}) {
				t.Errorf("ScrollBy(%v, %d) = %v", v, n, got)
			}
		}
		for _, rel := range beyond(0, 1000) {
			if got := impl.MoveTo(v, rel); got != (impl.View{}) {
				t.Errorf("MoveTo(%v, %d) = %v", v, rel, got)
			}
		}
		// A view without lines has none that can be seen.
		for _, n := range beyond(0, v.Total-1) {
			if got := impl.SeeLine(v, n); got != (impl.View{}) {
				t.Errorf("SeeLine(%v, %d) = %v", v, n, got)
			}
		}
	}
}
