package tests

import (
	"math"

	"loop.example/widgetroom/impl"
)

// none is the rectangle of a call that has no result.
var none = impl.Rect{}

// rect returns a rectangle.
func rect(x, y, w, h int) impl.Rect {
	return impl.Rect{X: x, Y: y, W: w, H: h}
}

// stretch is a place and a size, across or down.
type stretch struct{ at, size int }

// rectsOf returns the rectangles of all stretches across with all stretches down.
func rectsOf(across, down []stretch) []impl.Rect {
	var list []impl.Rect
	for _, a := range across {
		for _, d := range down {
			list = append(list, rect(a.at, d.at, a.size, d.size))
		}
	}
	return list
}

// smallRects returns rectangles near 0, with all ways in which two of them can lie to each other.
func smallRects() []impl.Rect {
	var list []stretch
	for at := -1; at <= 2; at++ {
		for size := range 4 {
			list = append(list, stretch{at, size})
		}
	}
	return rectsOf(list, list)
}

// limitRects returns rectangles at the limits, those without points among them.
func limitRects() []impl.Rect {
	return rectsOf([]stretch{{-1000, 0}, {-1000, 1}, {-1000, 400}, {-7, 5}, {600, 399}, {600, 400}, {999, 1}, {1000, 0}},
		[]stretch{{-1000, 0}, {-1000, 3}, {-999, 400}, {0, 0}, {0, 7}, {601, 399}, {999, 0}, {1000, 0}})
}

// validRects returns rectangles of all sorts.
func validRects() []impl.Rect {
	return append(smallRects(), limitRects()...)
}

// badStretches returns stretches that no valid rectangle has.
func badStretches() []stretch {
	list := []stretch{{0, -1}, {0, 401}, {-1001, 0}, {-1001, 1}, {-1001, 400}, {1001, 0}, {1001, -1}, {601, 400}, {1000, 1}, {999, 2}, {-1000, -1}, {-1000, 401}}
	for _, n := range greatNumbers() {
		list = append(list, stretch{0, n}, stretch{n, 0}, stretch{n, 1}, stretch{n, 400}, stretch{n, n})
	}
	// The sum of each of these wraps around, or comes back, to a valid one.
	return append(list, stretch{math.MinInt, math.MinInt}, stretch{math.MaxInt, math.MinInt + 1}, stretch{math.MinInt + 5, math.MaxInt}, stretch{1 << 62, -1 << 62}, stretch{2000, -1500})
}

// badRects returns rectangles that are not valid, across, down or both.
func badRects() []impl.Rect {
	bad, good := badStretches(), []stretch{{0, 0}, {3, 4}, {-1000, 400}}
	return append(append(rectsOf(bad, good), rectsOf(good, bad)...), rectsOf(bad, bad)...)
}

// greatNumbers returns numbers far beyond all limits; some of them are few or 0 when they are doubled.
func greatNumbers() []int {
	return []int{math.MinInt, math.MinInt + 1, math.MinInt + 3, -1 << 62, -1 << 32, 1 << 32, 1<<32 + 1, 1 << 62, 1<<62 + 1, math.MaxInt - 3, math.MaxInt - 1, math.MaxInt}
}

// beyond returns the numbers that are just beyond a range, or far beyond it.
func beyond(least, most int) []int {
	return append(greatNumbers(), least-1, most+1, least-1000, most+1000)
}

// points returns the points of a rectangle.
func points(r impl.Rect) map[[2]int]bool {
	set := map[[2]int]bool{}
	for x := r.X; x < r.X+r.W; x++ {
		for y := r.Y; y < r.Y+r.H; y++ {
			set[[2]int{x, y}] = true
		}
	}
	return set
}

// common returns the points of two rectangles.
func common(a, b map[[2]int]bool) map[[2]int]bool {
	set := map[[2]int]bool{}
	for p := range a {
		if b[p] {
			set[p] = true
		}
	}
	return set
}

// liesIn reports whether a rectangle has all its corners in another one, the edges counted.
func liesIn(outer, inner impl.Rect) bool {
	return inner.X >= outer.X && inner.Y >= outer.Y && inner.X+inner.W <= outer.X+outer.W && inner.Y+inner.H <= outer.Y+outer.H
}

// The functions below say what the document says of rectangles that are as great as they are, also beyond the limits.

// wantCut returns the piece of a rectangle at a side, and the rest.
func wantCut(r impl.Rect, side, n int) (impl.Rect, impl.Rect) {
	wide, high := min(n, r.W), min(n, r.H)
	switch side {
	case impl.SdTop:
		return rect(r.X, r.Y, r.W, high), rect(r.X, r.Y+high, r.W, r.H-high)
	case impl.SdBottom:
		return rect(r.X, r.Y+r.H-high, r.W, high), rect(r.X, r.Y, r.W, r.H-high)
	case impl.SdLeft:
		return rect(r.X, r.Y, wide, r.H), rect(r.X+wide, r.Y, r.W-wide, r.H)
	}
	return rect(r.X+r.W-wide, r.Y, wide, r.H), rect(r.X, r.Y, r.W-wide, r.H)
}

// wantInset returns a rectangle that is smaller at all sides.
func wantInset(r impl.Rect, px, py int) impl.Rect {
	return rect(r.X+min(px, r.W/2), r.Y+min(py, r.H/2), max(r.W-px-px, 0), max(r.H-py-py, 0))
}

// wantAnchored returns a rectangle of a size in another one.
func wantAnchored(r impl.Rect, w, h, anchor int) impl.Rect {
	w, h = min(w, r.W), min(h, r.H)
	across, down := r.W-w, r.H-h
	return rect(r.X+[]int{0, across / 2, across}[anchor%3], r.Y+[]int{0, down / 2, down}[anchor/3], w, h)
}
