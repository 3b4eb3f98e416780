package tests

import (
	"slices"
	"testing"

	"loop.example/widgetroom/impl"
)

// atLeast reports whether none of the sizes of panes is less than it can be.
func atLeast(p impl.Panes) bool {
	for i, size := range p.Sizes {
		if size < p.Mins[i] {
			return false
		}
	}
	return true
}

func TestPromise51PanesCanBeLeast(t *testing.T) {
	greater := 0
	for _, p := range goodPanes() {
		least := panes(p.Mins, p.Mins...)
		if !impl.ValidPanes(p) || !impl.ValidPanes(least) {
			t.Errorf("ValidPanes(%v) = false, or with all sizes least", p)
		}
		if !samePanes(p, least) {
			greater++
		}
	}
	if greater == 0 {
		t.Error("all panes have their least sizes")
	}
}

func TestPromise52DraggingKeepsAll(t *testing.T) {
	forth, back, stayed := 0, 0, 0
	eachDrag(func(p impl.Panes, sash, by int) {
		got := impl.DragSash(p, sash, by)
		if len(got.Sizes) != len(p.Sizes) || !slices.Equal(got.Mins, p.Mins) || sumOf(got.Sizes) != sumOf(p.Sizes) || !atLeast(got) {
			t.Errorf("DragSash(%v, %d, %d) = %v", p, sash, by, got)
			return
		}
		further := sumOf(got.Sizes[:sash+1]) - sumOf(p.Sizes[:sash+1])
		if further != impl.SashAt(got, sash)-impl.SashAt(p, sash) || further < min(by, 0) || further > max(by, 0) {
			t.Errorf("DragSash(%v, %d, %d) = %v, so it is %d further", p, sash, by, got, further)
		}
		switch {
		case further > 0:
			forth++
		case further < 0:
			back++
		default:
			stayed++
		}
	})
	if forth == 0 || back == 0 || stayed == 0 {
		t.Errorf("%d sashes lie further, %d back, and %d as before", forth, back, stayed)
	}
}

func TestPromise53DraggingStopsAtLeastSizes(t *testing.T) {
	stopped, there := 0, 0
	eachDrag(func(p impl.Panes, sash, by int) {
		got := impl.DragSash(p, sash, by)
		if impl.SashAt(got, sash) == impl.SashAt(p, sash)+by {
			there++
			return
		}
		stopped++
		for _, i := range wayOf(p, sash, by) {
			if got.Sizes[i] != p.Mins[i] {
				t.Errorf("DragSash(%v, %d, %d) = %v, but the pane %d can give more", p, sash, by, got, i)
			}
		}
	})
	if stopped == 0 || there == 0 {
		t.Errorf("%d sashes stop, and %d do not", stopped, there)
	}
}

func TestPromise54SashesLieBetweenPanes(t *testing.T) {
	ahead, behind, first, last := 0, 0, 0, 0
	for _, p := range goodPanes() {
		for sash := range len(p.Sizes) - 1 {
			at := impl.SashAt(p, sash)
			before, next := impl.PaneAt(p, at-1), impl.PaneAt(p, at)
			switch {
			case at == 0:
				first++
			case before < 0 || before > sash:
				t.Errorf("SashAt(%v, %d) = %d, but %d has the place ahead of it", p, sash, at, before)
			default:
				ahead++
			}
			switch {
			case at == sumOf(p.Sizes):
				last++
			case next <= sash:
				t.Errorf("SashAt(%v, %d) = %d, which %d has", p, sash, at, next)
			default:
				behind++
			}
		}
	}
	if ahead == 0 || behind == 0 || first == 0 || last == 0 {
		t.Errorf("%d sashes have a place ahead, %d a place behind, %d lie at the beginning and %d at the end", ahead, behind, first, last)
	}
}

func TestPromise55PlacesLieInPanes(t *testing.T) {
	places := 0
	for _, p := range goodPanes() {
		for n := -2; n <= sumOf(p.Sizes)+2; n++ {
			i := impl.PaneAt(p, n)
			if isPlace := n >= 0 && n < sumOf(p.Sizes); isPlace != (i >= 0) || i >= len(p.Sizes) {
				t.Errorf("PaneAt(%v, %d) = %d", p, n, i)
				continue
			}
			if i < 0 {
				continue
			}
			places++
			if begin := sumOf(p.Sizes[:i]); begin > n || begin+p.Sizes[i] <= n {
				t.Errorf("PaneAt(%v, %d) = %d, which begins at %d", p, n, i, begin)
			}
		}
	}
	if places == 0 {
		t.Error("no panes have a place")
	}
}

func TestPromise56PanesHaveTheRoom(t *testing.T) {
	greater, less, never := 0, 0, 0
	eachResize(func(p impl.Panes, room int) {
		got, ok := impl.ResizePanes(p, room)
		if ok != (room >= sumOf(p.Mins)) {
			t.Errorf("ResizePanes(%v, %d) = %v, %v", p, room, got, ok)
			return
		}
		if !ok {
			never++
			return
		}
		if len(got.Sizes) != len(p.Sizes) || !slices.Equal(got.Mins, p.Mins) || sumOf(got.Sizes) != room || !atLeast(got) || !impl.ValidPanes(got) {
			t.Errorf("ResizePanes(%v, %d) = %v", p, room, got)
		}
		if room > sumOf(p.Sizes) {
			greater++
		}
		if room < sumOf(p.Sizes) {
			less++
		}
	})
	if greater == 0 || less == 0 || never == 0 {
		t.Errorf("%d rooms are greater, %d less, and %d not enough", greater, less, never)
	}
}

// isAtEnd reports whether a view cannot be a line further.
func isAtEnd(v impl.View) bool {
	v.First++
	return !impl.ValidView(v)
}

func TestPromise57ViewsCanBeginAt0(t *testing.T) {
	further := 0
	for _, v := range goodViews() {
		if got := impl.ScrollBy(v, 0); got != v {
			t.Errorf("ScrollBy(%v, 0) = %v", v, got)
		}
		if v.First > 0 {
			further++
		}
		v.First = 0
		if !impl.ValidView(v) {
			t.Errorf("ValidView(%v) = false", v)
		}
	}
	if further == 0 {
		t.Error("all views begin at 0")
	}
}

func TestPromise58ScrollingGoesStepByStep(t *testing.T) {
	forth, back, atEnd, atBegin := 0, 0, 0, 0
	eachScroll(func(v impl.View, n int) {
		got := impl.ScrollBy(v, n)
		further := got.First - v.First
		if !impl.ValidView(got) || got.Total != v.Total || got.Page != v.Page {
			t.Errorf("ScrollBy(%v, %d) = %v", v, n, got)
		}
		switch {
		case further == n && n > 0:
			forth++
		case further == n && n < 0:
			back++
		case further == n:
		case n > 0 && further >= 0 && further < n && isAtEnd(got):
			atEnd++
		case n < 0 && further <= 0 && further > n && got.First == 0:
			atBegin++
		default:
			t.Errorf("ScrollBy(%v, %d) = %v, which is %d further", v, n, got, further)
		}
	})
	if forth == 0 || back == 0 || atEnd == 0 || atBegin == 0 {
		t.Errorf("%d views go as far as told, %d so back, and %d and %d are at an end then", forth, back, atEnd, atBegin)
	}
}

func TestPromise59MovingGoesFromEndToEnd(t *testing.T) {
	steps := 0
	for _, v := range goodViews() {
		if first, last := impl.MoveTo(v, 0), impl.MoveTo(v, 1000); first.First != 0 || !isAtEnd(last) {
			t.Errorf("MoveTo of %v goes from %v to %v", v, first, last)
		}
		for rel := range 1000 {
			got, next := impl.MoveTo(v, rel), impl.MoveTo(v, rel+1)
			if !impl.ValidView(got) || got.Total != v.Total || got.Page != v.Page || next.First < got.First {
				t.Errorf("MoveTo(%v, %d) = %v, and then it is %v", v, rel, got, next)
			}
			if next.First > got.First {
				steps++
			}
		}
	}
	if steps == 0 {
		t.Error("no view is moved")
	}
}

func TestPromise60LinesAreSeenWithAsLittleScrollingAsCanBe(t *testing.T) {
	seen, first, last := 0, 0, 0
	eachLine(func(v impl.View, n int) {
		got := impl.SeeLine(v, n)
		if !impl.ValidView(got) || got.Total != v.Total || got.Page != v.Page || n < got.First || n >= got.First+got.Page {
			t.Errorf("SeeLine(%v, %d) = %v", v, n, got)
		}
		switch {
		case v.First <= n && n < v.First+v.Page:
			seen++
			if got != v {
				t.Errorf("SeeLine(%v, %d) = %v, but it was seen", v, n, got)
			}
		case n < v.First && n == got.First:
			first++
		case n >= v.First+v.Page && n == got.First+got.Page-1:
			last++
		default:
			t.Errorf("SeeLine(%v, %d) = %v, but it is none at an end", v, n, got)
		}
	})
	if seen == 0 || first == 0 || last == 0 {
		t.Errorf("%d lines were seen, %d are the first one, and %d the last one", seen, first, last)
	}
}

func TestPromise61ThumbsTellWhatIsSeen(t *testing.T) {
	atBegin, atEnd, between, bare := 0, 0, 0, 0
	for _, v := range goodViews() {
		begin, end := impl.ThumbOf(v)
		if begin < 0 || end > 1000 || end < begin {
			t.Errorf("ThumbOf(%v) = %d, %d", v, begin, end)
		}
		if v.First == 0 {
			atBegin++
			if begin != 0 {
				t.Errorf("ThumbOf(%v) = %d, %d, but it is at the beginning", v, begin, end)
			}
		}
		if isAtEnd(v) {
			atEnd++
			if end != 1000 {
				t.Errorf("ThumbOf(%v) = %d, %d, but it is at the end", v, begin, end)
			}
		}
		if v.First > 0 && !isAtEnd(v) {
			between++
		}
		if v.Total == 0 {
			bare++
		}
	}
	if atBegin == 0 || atEnd == 0 || between == 0 || bare == 0 {
		t.Errorf("%d views are at the beginning, %d at the end, %d at none, and %d have no lines", atBegin, atEnd, between, bare)
	}
}
