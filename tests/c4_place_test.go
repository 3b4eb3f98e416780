package tests

import (
	"testing"

	"loop.example/widgetroom/impl"
)

func TestPlaceConstants(t *testing.T) {
	if impl.MaxShift != 300 || impl.MaxRel != 1000 {
		t.Error("the limits are not those of the document")
	}
}

func TestValidPlace(t *testing.T) {
	for _, p := range goodPlaces() {
		if !impl.ValidPlace(p) {
			t.Errorf("ValidPlace(%+v) = false", p)
		}
	}
	for _, p := range badPlaces() {
		if impl.ValidPlace(p) {
			t.Errorf("ValidPlace(%+v) = true", p)
		}
	}
}

func TestPlaceRectExamples(t *testing.T) {
	greatest := impl.Place{X: 300, Y: 300, RelX: 1000, RelY: 1000, W: 300, H: 300, RelW: 1000, RelH: 1000}
	last := greatest
	last.Anchor = 8
	for _, c := range []struct {
		p    impl.Place
		w, h int
		want impl.Rect
	}{
		{impl.Place{}, 100, 40, rect(0, 0, 0, 0)},
		{fixedPlace(3, 4, 10, 5, 0), 100, 40, rect(3, 4, 10, 5)},
		{fixedPlace(3, 4, 10, 5, 0), 0, 0, rect(3, 4, 10, 5)},
		{fixedPlace(150, -90, 10, 5, 0), 100, 40, rect(150, -90, 10, 5)},
		{fixedPlace(-300, 300, 0, 300, 2), 0, 0, rect(-300, 300, 0, 300)},
		{fixedPlace(300, -300, 300, 0, 6), 0, 0, rect(300, -300, 300, 0)},
		// A size below 0 is none, and ends where it begins.
		{fixedPlace(10, 20, -1, -300, 0), 100, 40, rect(10, 20, 0, 0)},
		{fixedPlace(10, 20, -1, -300, 4), 100, 40, rect(10, 20, 0, 0)},
		{fixedPlace(10, 20, -7, -300, 8), 100, 40, rect(10, 20, 0, 0)},
		{impl.Place{W: -10, RelW: 1000, H: -41, RelH: 1000, Anchor: 8}, 100, 40, rect(-90, 0, 90, 0)},
		// The rest of the thousandths is left out of the place, also of one below 0.
		{impl.Place{RelX: 999, RelY: 333}, 3, 400, rect(2, 133, 0, 0)},
		{impl.Place{X: -5, RelX: 999, Y: -5, RelY: 333}, 3, 400, rect(-3, 128, 0, 0)},
		{impl.Place{RelX: 1, RelY: 3}, 400, 400, rect(0, 1, 0, 0)},
		{impl.Place{RelW: 5, RelH: 5}, 199, 200, rect(0, 0, 0, 1)},
		{impl.Place{W: -2, RelW: 999, H: -2, RelH: 999}, 3, 4, rect(0, 0, 0, 1)},
		{impl.Place{W: -1, RelW: 9, H: 1, RelH: 9}, 100, 100, rect(0, 0, 0, 1)},
		{impl.Place{RelX: 333, W: 1, RelW: 333, Anchor: 1}, 100, 0, rect(16, 0, 34, 0)},
		{impl.Place{RelY: 667, H: 0, RelH: 333, Anchor: 3}, 0, 100, rect(0, 50, 0, 33)},
		// The thousandths of the place are of the width across, and of the height down.
		{impl.Place{RelX: 100, RelY: 200, RelW: 300, RelH: 400}, 100, 40, rect(10, 8, 30, 16)},
		{impl.Place{RelX: 100, RelY: 200, RelW: 300, RelH: 400}, 40, 100, rect(4, 20, 12, 40)},
		{greatest, 400, 400, rect(700, 700, 700, 700)},
		{last, 400, 400, rect(0, 0, 700, 700)},
		{greatest, 0, 0, rect(300, 300, 300, 300)},
		{impl.Place{X: -300, Y: -300, W: 300, H: 300, RelW: 1000, RelH: 1000, Anchor: 8}, 400, 400, rect(-1000, -1000, 700, 700)},
	} {
		if got := impl.PlaceRect(c.p, c.w, c.h); got != c.want {
			t.Errorf("PlaceRect(%+v, %d, %d) = %v, not %v", c.p, c.w, c.h, got, c.want)
		}
	}
}

func TestPlaceRectAnchors(t *testing.T) {
	for anchor, want := range []impl.Rect{
		rect(-5, 20, 10, 5), rect(-10, 20, 10, 5), rect(-15, 20, 10, 5),
		rect(-5, 18, 10, 5), rect(-10, 18, 10, 5), rect(-15, 18, 10, 5),
		rect(-5, 15, 10, 5), rect(-10, 15, 10, 5), rect(-15, 15, 10, 5),
	} {
		p := impl.Place{X: -10, RelX: 50, W: 10, RelY: 500, RelH: 125, Anchor: anchor}
		if got := impl.PlaceRect(p, 100, 40); got != want {
			t.Errorf("PlaceRect at the anchor %d = %v, not %v", anchor, got, want)
		}
	}
}

func TestPlaceRect(t *testing.T) {
	eachPlacing(func(p impl.Place, w, h int) {
		if got, want := impl.PlaceRect(p, w, h), wantPlaced(p, w, h); got != want {
			t.Errorf("PlaceRect(%+v, %d, %d) = %v, not %v", p, w, h, got, want)
		}
	})
}

func TestPlaceInsideExamples(t *testing.T) {
	ends := impl.Place{RelX: 1000, RelY: 1000, W: 10, H: 8, Anchor: 8}
	all := impl.Place{RelW: 1000, RelH: 1000}
	for _, c := range []struct {
		p    impl.Place
		w, h int
		want bool
	}{
		{fixedPlace(3, 4, 10, 5, 0), 13, 9, true},
		{fixedPlace(3, 4, 10, 5, 0), 12, 9, false},
		{fixedPlace(3, 4, 10, 5, 0), 13, 8, false},
		{fixedPlace(-1, 0, 5, 5, 0), 400, 400, false},
		{fixedPlace(0, -1, 5, 5, 0), 400, 400, false},
		{fixedPlace(5, 5, 5, 5, 8), 5, 5, true},
		{fixedPlace(4, 5, 5, 5, 8), 5, 5, false},
		// One without points lies inside by its place.
		{impl.Place{}, 0, 0, true},
		{fixedPlace(10, 8, -3, -4, 4), 10, 8, true},
		{fixedPlace(11, 8, 0, 0, 0), 10, 8, false},
		{fixedPlace(10, 9, 0, 0, 0), 10, 8, false},
		{fixedPlace(-1, 0, 0, 0, 0), 10, 8, false},
		{fixedPlace(0, -1, 0, 0, 0), 10, 8, false},
		{fixedPlace(0, 9, 0, 4, 0), 10, 8, false},
		{ends, 10, 8, true},
		{ends, 9, 8, false},
		{ends, 400, 7, false},
		{all, 0, 0, true},
		{all, 400, 400, true},
		// These are greater than a rectangle can be.
		{impl.Place{W: 1, RelW: 1000}, 400, 400, false},
		{impl.Place{H: 300, RelH: 1000}, 400, 400, false},
		{impl.Place{X: 1, W: -1, RelW: 1000}, 400, 400, true},
	} {
		if got := impl.PlaceInside(c.p, c.w, c.h); got != c.want {
			t.Errorf("PlaceInside(%+v, %d, %d) = %v", c.p, c.w, c.h, got)
		}
	}
}

func TestPlaceInside(t *testing.T) {
	eachPlacing(func(p impl.Place, w, h int) {
		if got := impl.PlaceInside(p, w, h); got != wantInside(p, w, h) {
			t.Errorf("PlaceInside(%+v, %d, %d) = %v", p, w, h, got)
		}
	})
}

func TestLeastInsideExamples(t *testing.T) {
	for _, c := range []struct {
		p    impl.Place
		want int
	}{
		{impl.Place{}, 0},
		{fixedPlace(3, 4, 10, 5, 0), 13},
		{fixedPlace(3, 4, 5, 10, 0), 14},
		{fixedPlace(-1, 0, 5, 5, 0), -1},
		{fixedPlace(0, -1, 5, 5, 0), -1},
		{fixedPlace(0, 0, -9, -9, 0), 0},
		{fixedPlace(1, 0, 0, 0, 0), 1},
		{fixedPlace(300, 0, 99, 0, 0), 399},
		{fixedPlace(300, 0, 100, 0, 0), 400},
		{fixedPlace(300, 0, 101, 0, 0), -1},
		{fixedPlace(0, 300, 0, 100, 0), 400},
		{fixedPlace(0, 300, 0, 101, 0), -1},
		{impl.Place{RelX: 500, RelY: 500, W: 10, H: 5, Anchor: 4}, 10},
		{impl.Place{RelX: 1000, RelY: 1000, W: 17, H: 5, Anchor: 8}, 17},
		{impl.Place{RelW: 1000, W: 1}, -1},
		{impl.Place{RelW: 1000, W: -1}, 0},
		{impl.Place{X: -1, RelX: 3}, 334},
		{impl.Place{Y: -1, RelY: 3}, 334},
		{impl.Place{X: -2, RelX: 5}, 400},
		{impl.Place{X: -1, RelX: 2}, -1},
	} {
		if got := impl.LeastInside(c.p); got != c.want {
			t.Errorf("LeastInside(%+v) = %d, not %d", c.p, got, c.want)
		}
	}
}

func TestLeastInsideOnlyThere(t *testing.T) {
	// It begins 10 ahead of the end, and is as wide as all.
	p := impl.Place{X: -10, RelX: 1000, RelW: 1000}
	if got := impl.LeastInside(p); got != 10 {
		t.Errorf("LeastInside(%+v) = %d", p, got)
	}
	for n := range 401 {
		if got := impl.PlaceInside(p, n, n); got != (n == 10) {
			t.Errorf("PlaceInside(%+v, %d, %d) = %v", p, n, n, got)
		}
	}
}

func TestLeastInside(t *testing.T) {
	for _, p := range goodPlaces() {
		if got, want := impl.LeastInside(p), wantLeast(p); got != want {
			t.Errorf("LeastInside(%+v) = %d, not %d", p, got, want)
		}
	}
}

func TestPlaceAtExamples(t *testing.T) {
	middle := impl.Place{X: 9, Y: -9, RelX: 500, W: 10, H: 5, Anchor: 4}
	moved := middle
	moved.X, moved.Y = -38, 10
	ends := impl.Place{RelX: 1000, RelY: 1000, RelW: 250, RelH: 500}
	at := func(p impl.Place, x, y int) impl.Place {
		p.X, p.Y = x, y
		return p
	}
	for _, c := range []struct {
		p          impl.Place
		w, h, x, y int
		want       impl.Place
		ok         bool
	}{
		{impl.Place{}, 0, 0, 0, 0, impl.Place{}, true},
		{middle, 100, 40, 7, 8, moved, true},
		{moved, 100, 40, 7, 8, moved, true},
		{fixedPlace(5, 6, 7, 8, 0), 0, 0, 300, -300, fixedPlace(300, -300, 7, 8, 0), true},
		{fixedPlace(5, 6, 7, 8, 0), 0, 0, -300, 300, fixedPlace(-300, 300, 7, 8, 0), true},
		// The item is at the place, and its end is beyond what an item can be placed at.
		{fixedPlace(5, 6, 7, 8, 8), 0, 0, 293, 292, fixedPlace(300, 300, 7, 8, 8), true},
		{fixedPlace(5, 6, 7, 8, 8), 0, 0, 294, 292, impl.Place{}, false},
		{fixedPlace(5, 6, 7, 8, 8), 0, 0, 293, 293, impl.Place{}, false},
		{fixedPlace(5, 6, 7, 8, 4), 0, 0, 297, 296, fixedPlace(300, 300, 7, 8, 4), true},
		{fixedPlace(5, 6, 7, 8, 4), 0, 0, 298, 0, impl.Place{}, false},
		{fixedPlace(5, 6, 7, 8, 4), 0, 0, 0, 297, impl.Place{}, false},
		{fixedPlace(5, 6, -7, -8, 8), 0, 0, 300, 300, fixedPlace(300, 300, -7, -8, 8), true},
		{ends, 400, 400, 100, 100, at(ends, -300, -300), true},
		{ends, 400, 400, 99, 100, impl.Place{}, false},
		{ends, 400, 400, 100, 99, impl.Place{}, false},
		{impl.Place{W: 300, RelW: 1000, Anchor: 2}, 300, 0, -300, 0, impl.Place{X: 300, W: 300, RelW: 1000, Anchor: 2}, true},
		{impl.Place{W: 300, RelW: 1000, Anchor: 2}, 301, 0, -300, 0, impl.Place{}, false},
	} {
		if got, ok := impl.PlaceAt(c.p, c.w, c.h, c.x, c.y); got != c.want || ok != c.ok {
			t.Errorf("PlaceAt(%+v, %d, %d, %d, %d) = %+v, %v, not %+v", c.p, c.w, c.h, c.x, c.y, got, ok, c.want)
		}
	}
}

func TestPlaceAt(t *testing.T) {
	for _, p := range mixedPlaces() {
		for _, s := range []size{{0, 0}, {100, 40}, {251, 333}, {400, 400}} {
			for _, at := range []spot{{0, 0}, {-300, 300}, {300, -300}, {17, -23}} {
				want, wantOk := wantAt(p, s.w, s.h, at.x, at.y)
				if got, ok := impl.PlaceAt(p, s.w, s.h, at.x, at.y); got != want || ok != wantOk {
					t.Errorf("PlaceAt(%+v, %d, %d, %d, %d) = %+v, %v, not %+v, %v", p, s.w, s.h, at.x, at.y, got, ok, want, wantOk)
				}
			}
		}
	}
}

func TestFixPlaceExamples(t *testing.T) {
	all := impl.Place{RelX: 1000, RelY: 1000, RelW: 1000, RelH: 1000}
	for _, c := range []struct {
		p    impl.Place
		w, h int
		want impl.Place
		ok   bool
	}{
		{impl.Place{}, 0, 0, impl.Place{}, true},
		{fixedPlace(-300, 300, 7, 300, 5), 400, 400, fixedPlace(-300, 300, 7, 300, 5), true},
		{impl.Place{RelX: 500, RelW: 250, RelH: 1000, Anchor: 4}, 100, 40, fixedPlace(50, 0, 25, 40, 4), true},
		// A size below 0 gets none.
		{fixedPlace(4, 5, -300, -1, 8), 100, 40, fixedPlace(4, 5, 0, 0, 8), true},
		{impl.Place{W: -10, RelW: 50, H: -10, RelH: 275}, 100, 40, fixedPlace(0, 0, 0, 1, 0), true},
		{impl.Place{X: -5, RelX: 999, Y: -5, RelY: 999, W: 1, RelW: 999, H: 1, RelH: 333}, 3, 4, fixedPlace(-3, -2, 3, 2, 0), true},
		// The end of the item lies farther than an item can be placed, but its number does not.
		{impl.Place{X: 300, W: 300, Y: 300, H: 300}, 0, 0, fixedPlace(300, 300, 300, 300, 0), true},
		{impl.Place{X: -300, W: 300, Y: -300, H: 300, Anchor: 8}, 0, 0, fixedPlace(-300, -300, 300, 300, 8), true},
		{all, 300, 300, fixedPlace(300, 300, 300, 300, 0), true},
		{impl.Place{RelX: 1000}, 301, 0, impl.Place{}, false},
		{impl.Place{RelY: 1000}, 0, 301, impl.Place{}, false},
		{impl.Place{RelW: 1000}, 301, 0, impl.Place{}, false},
		{impl.Place{RelH: 1000}, 0, 301, impl.Place{}, false},
		{impl.Place{X: 300, RelX: 2, W: 300, RelW: 2}, 400, 0, fixedPlace(300, 0, 300, 0, 0), true},
		{impl.Place{X: 300, RelX: 3, Anchor: 2}, 400, 0, impl.Place{}, false},
		{impl.Place{Y: 300, RelY: 3, Anchor: 6}, 0, 400, impl.Place{}, false},
		{impl.Place{W: 300, RelW: 3}, 400, 0, impl.Place{}, false},
		{impl.Place{H: 300, RelH: 3}, 0, 400, impl.Place{}, false},
		{impl.Place{X: -300, RelX: 1000, W: -100, RelW: 1000}, 400, 0, fixedPlace(100, 0, 300, 0, 0), true},
	} {
		if got, ok := impl.FixPlace(c.p, c.w, c.h); got != c.want || ok != c.ok {
			t.Errorf("FixPlace(%+v, %d, %d) = %+v, %v, not %+v", c.p, c.w, c.h, got, ok, c.want)
		}
	}
}

func TestFixPlace(t *testing.T) {
	for _, p := range mixedPlaces() {
		for _, s := range placeSizes() {
			want, wantOk := wantFixed(p, s.w, s.h)
			if got, ok := impl.FixPlace(p, s.w, s.h); got != want || ok != wantOk {
				t.Errorf("FixPlace(%+v, %d, %d) = %+v, %v, not %+v, %v", p, s.w, s.h, got, ok, want, wantOk)
			}
		}
	}
}

// wantNoPlace checks that nothing is placed.
func wantNoPlace(t *testing.T, p impl.Place, w, h int) {
	t.Helper()
	r, inside := impl.PlaceRect(p, w, h), impl.PlaceInside(p, w, h)
	at, atOk := impl.PlaceAt(p, w, h, 1, 2)
	fixed, fixedOk := impl.FixPlace(p, w, h)
	if r != none || inside || at != (impl.Place{}) || atOk || fixed != (impl.Place{}) || fixedOk {
		t.Errorf("%+v in %d, %d: %v, %v, %+v, %v, %+v, %v", p, w, h, r, inside, at, atOk, fixed, fixedOk)
	}
}

func TestPlacesInvalid(t *testing.T) {
	for _, p := range badPlaces() {
		if n := impl.LeastInside(p); n != -1 {
			t.Errorf("LeastInside(%+v) = %d", p, n)
		}
		for _, s := range append(placeSizes(), size{-1, 5}, size{5, 401}) {
			wantNoPlace(t, p, s.w, s.h)
		}
	}
	for _, p := range []impl.Place{{}, fixedPlace(1, 2, 3, 4, 0), {RelX: 1000, RelY: 1000, W: 3, H: 4, Anchor: 8}, {RelW: 1000, RelH: 1}} {
		for _, s := range badSizes() {
			wantNoPlace(t, p, s.w, s.h)
		}
	}
}

func TestPlaceAtInvalidPlaces(t *testing.T) {
	// Some of these items would be valid ones also just beyond the limit.
	for _, p := range []impl.Place{{X: 5}, {RelX: 1000, RelY: 1000}, {W: 8, H: 8, Anchor: 8}} {
		for _, n := range beyond(-300, 300) {
			for _, at := range []spot{{n, 0}, {0, n}, {n, n}} {
				if got, ok := impl.PlaceAt(p, 100, 100, at.x, at.y); ok || got != (impl.Place{}) {
					t.Errorf("PlaceAt(%+v, 100, 100, %d, %d) = %+v, %v", p, at.x, at.y, got, ok)
				}
			}
		}
	}
}

func TestPlacesAtTheLimits(t *testing.T) {
	for _, p := range []impl.Place{{RelW: 1000, RelH: 1000}, {RelX: 1000, RelY: 1000, RelW: 1000, RelH: 1000, Anchor: 8}, {RelX: 500, RelY: 500, RelW: 1000, RelH: 1000, Anchor: 4}} {
		if got := impl.PlaceRect(p, 400, 400); got != rect(0, 0, 400, 400) || !impl.PlaceInside(p, 400, 400) {
			t.Errorf("PlaceRect(%+v, 400, 400) = %v", p, got)
		}
		wantNoPlace(t, p, 401, 400)
		wantNoPlace(t, p, 400, 401)
	}
}
