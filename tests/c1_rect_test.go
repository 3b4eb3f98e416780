package tests

import (
	"maps"
	"math"
	"testing"

	"loop.example/widgetroom/impl"
)

func TestRectConstants(t *testing.T) {
	if impl.MaxCoord != 1000 || impl.MaxSide != 400 || impl.MaxPad != 10 {
		t.Error("the limits are not those of the document")
	}
	if impl.SdTop != 0 || impl.SdBottom != 1 || impl.SdLeft != 2 || impl.SdRight != 3 {
		t.Error("the sides are not those of the document")
	}
}

func TestValidRect(t *testing.T) {
	for _, r := range append(validRects(), none, rect(-1000, 600, 400, 400), rect(600, -1000, 400, 0)) {
		if !impl.ValidRect(r) {
			t.Errorf("ValidRect(%v) = false", r)
		}
	}
	for _, r := range badRects() {
		if impl.ValidRect(r) {
			t.Errorf("ValidRect(%v) = true", r)
		}
	}
}

func TestHasPoint(t *testing.T) {
	for _, r := range smallRects() {
		set := points(r)
		for x := -3; x <= 7; x++ {
			for y := -3; y <= 7; y++ {
				if got := impl.HasPoint(r, x, y); got != set[[2]int{x, y}] {
					t.Errorf("HasPoint(%v, %d, %d) = %v", r, x, y, got)
				}
			}
		}
	}
}

func TestHasPointFarAway(t *testing.T) {
	for _, r := range validRects() {
		for _, n := range greatNumbers() {
			if impl.HasPoint(r, n, r.Y) || impl.HasPoint(r, r.X, n) || impl.HasPoint(r, n, n) {
				t.Errorf("%v has a point at %d", r, n)
			}
		}
	}
	for _, r := range badRects() {
		if impl.HasPoint(r, r.X, r.Y) || impl.HasPoint(r, 0, 0) || impl.HasPoint(r, 3, 3) {
			t.Errorf("%v, which is not valid, has a point", r)
		}
	}
}

func TestMeetRects(t *testing.T) {
	for _, a := range smallRects() {
		ofA := points(a)
		for _, b := range smallRects() {
			want := common(ofA, points(b))
			got, ok := impl.MeetRects(a, b)
			if ok != (len(want) > 0) || !maps.Equal(points(got), want) || !ok && got != none {
				t.Errorf("MeetRects(%v, %v) = %v, %v", a, b, got, ok)
			}
		}
	}
}

func TestMeetRectsExamples(t *testing.T) {
	for _, c := range []struct {
		a, b, want impl.Rect
		ok         bool
	}{
		{rect(0, 0, 10, 8), rect(5, -2, 10, 5), rect(5, 0, 5, 3), true},
		{rect(0, 0, 10, 8), rect(2, 3, 4, 2), rect(2, 3, 4, 2), true},
		{rect(0, 0, 10, 8), rect(10, 0, 5, 5), none, false},
		{rect(0, 0, 10, 8), rect(0, 8, 5, 5), none, false},
		{rect(0, 0, 10, 8), rect(3, 3, 0, 5), none, false},
		{rect(0, 0, 10, 8), rect(3, 3, 5, 0), none, false},
		{rect(0, 0, 10, 8), rect(20, 20, 5, 5), none, false},
		{rect(0, 0, 10, 8), rect(4, 20, 5, 5), none, false},
		{rect(600, 600, 400, 400), rect(999, 999, 1, 1), rect(999, 999, 1, 1), true},
		{rect(-1000, -1000, 400, 400), rect(-601, -900, 400, 1), rect(-601, -900, 1, 1), true},
		{rect(-1000, -1000, 400, 400), rect(600, 600, 400, 400), none, false},
	} {
		if got, ok := impl.MeetRects(c.a, c.b); got != c.want || ok != c.ok {
			t.Errorf("MeetRects(%v, %v) = %v, %v", c.a, c.b, got, ok)
		}
	}
}

func TestCoverRects(t *testing.T) {
	for _, c := range []struct {
		a, b, want impl.Rect
		ok         bool
	}{
		{rect(0, 0, 10, 8), rect(5, -2, 10, 5), rect(0, -2, 15, 10), true},
		{rect(0, 0, 10, 8), rect(2, 3, 4, 2), rect(0, 0, 10, 8), true},
		{rect(0, 0, 2, 2), rect(9, 5, 0, 0), rect(0, 0, 9, 5), true},
		{rect(-4, 5, 0, 0), rect(3, -6, 0, 0), rect(-4, -6, 7, 11), true},
		{rect(3, 3, 0, 0), rect(3, 3, 0, 0), rect(3, 3, 0, 0), true},
		{rect(0, 0, 1, 1), rect(399, 0, 1, 1), rect(0, 0, 400, 1), true},
		{rect(0, 0, 1, 1), rect(400, 0, 1, 1), none, false},
		{rect(0, 0, 1, 1), rect(0, 399, 1, 1), rect(0, 0, 1, 400), true},
		{rect(0, 0, 1, 1), rect(0, 400, 1, 1), none, false},
		{rect(0, 0, 0, 0), rect(400, 400, 0, 0), rect(0, 0, 400, 400), true},
		{rect(0, 0, 0, 0), rect(401, 0, 0, 0), none, false},
		{rect(0, 0, 0, 0), rect(0, -401, 0, 0), none, false},
		{rect(-1000, -1000, 400, 400), rect(600, 600, 400, 400), none, false},
		{rect(600, 600, 1, 1), rect(1000, 1000, 0, 0), rect(600, 600, 400, 400), true},
	} {
		if got, ok := impl.CoverRects(c.a, c.b); got != c.want || ok != c.ok {
			t.Errorf("CoverRects(%v, %v) = %v, %v", c.a, c.b, got, ok)
		}
	}
}

func TestInsideRect(t *testing.T) {
	for _, a := range validRects() {
		for _, b := range validRects() {
			if got := impl.InsideRect(a, b); got != liesIn(a, b) {
				t.Errorf("InsideRect(%v, %v) = %v", a, b, got)
			}
		}
	}
	if !impl.InsideRect(rect(0, 0, 10, 8), rect(10, 8, 0, 0)) || impl.InsideRect(rect(0, 0, 10, 8), rect(11, 8, 0, 0)) {
		t.Error("a rectangle without points lies inside by its place")
	}
}

func TestPairsWithBadRects(t *testing.T) {
	for _, bad := range badRects() {
		for _, good := range []impl.Rect{none, rect(0, 0, 5, 5), rect(-1000, -1000, 400, 400), bad} {
			for _, pair := range [][2]impl.Rect{{bad, good}, {good, bad}} {
				if m, ok := impl.MeetRects(pair[0], pair[1]); ok || m != none {
					t.Errorf("MeetRects of %v = %v, %v", pair, m, ok)
				}
				if c, ok := impl.CoverRects(pair[0], pair[1]); ok || c != none {
					t.Errorf("CoverRects of %v = %v, %v", pair, c, ok)
				}
				if impl.InsideRect(pair[0], pair[1]) {
					t.Errorf("InsideRect of %v", pair)
				}
			}
		}
	}
}

func TestMoveRect(t *testing.T) {
	for _, c := range []struct {
		r      impl.Rect
		dx, dy int
		want   impl.Rect
		ok     bool
	}{
		{rect(0, 0, 10, 8), -5, 3, rect(-5, 3, 10, 8), true},
		{rect(1, 2, 0, 0), 0, 0, rect(1, 2, 0, 0), true},
		{rect(0, 0, 0, 0), 1000, -1000, rect(1000, -1000, 0, 0), true},
		{rect(0, 0, 0, 0), -1000, 1000, rect(-1000, 1000, 0, 0), true},
		{rect(-1000, 0, 400, 1), 1000, 0, rect(0, 0, 400, 1), true},
		{rect(590, 0, 400, 1), 10, 0, rect(600, 0, 400, 1), true},
		{rect(590, 0, 400, 1), 11, 0, none, false},
		{rect(0, 590, 1, 400), 0, 11, none, false},
		{rect(0, 0, 1, 1), 1000, 0, none, false},
		{rect(0, 0, 1, 1), 0, 1000, none, false},
		{rect(-1, 0, 1, 1), -1000, 0, none, false},
		{rect(0, -1, 1, 1), 0, -1000, none, false},
		{rect(-1000, 5, 1, 1), 1001, 0, none, false},
		{rect(5, -1000, 1, 1), 0, 1001, none, false},
		{rect(1000, 5, 0, 1), -1001, 0, none, false},
		{rect(5, 1000, 1, 0), 0, -1001, none, false},
	} {
		if got, ok := impl.MoveRect(c.r, c.dx, c.dy); got != c.want || ok != c.ok {
			t.Errorf("MoveRect(%v, %d, %d) = %v, %v", c.r, c.dx, c.dy, got, ok)
		}
	}
}

func TestMoveRectInvalid(t *testing.T) {
	for _, r := range badRects() {
		for _, d := range []int{0, 1, -1, 500, -500, 1000, -1000} {
			if m, ok := impl.MoveRect(r, d, 0); ok || m != none {
				t.Errorf("MoveRect(%v, %d, 0) = %v, %v", r, d, m, ok)
			}
			if m, ok := impl.MoveRect(r, 0, d); ok || m != none {
				t.Errorf("MoveRect(%v, 0, %d) = %v, %v", r, d, m, ok)
			}
		}
	}
	for _, r := range validRects() {
		for _, d := range beyond(-1000, 1000) {
			if m, ok := impl.MoveRect(r, d, 0); ok || m != none {
				t.Errorf("MoveRect(%v, %d, 0) = %v, %v", r, d, m, ok)
			}
			if m, ok := impl.MoveRect(r, 0, d); ok || m != none {
				t.Errorf("MoveRect(%v, 0, %d) = %v, %v", r, d, m, ok)
			}
		}
	}
}

func TestInsetRect(t *testing.T) {
	for _, c := range []struct {
		r      impl.Rect
		px, py int
		want   impl.Rect
	}{
		{rect(0, 0, 10, 8), 2, 3, rect(2, 3, 6, 2)},
		{rect(0, 0, 10, 8), 2, 5, rect(2, 4, 6, 0)},
		{rect(0, 0, 5, 5), 2, 2, rect(2, 2, 1, 1)},
		{rect(0, 0, 5, 5), 3, 1, rect(2, 1, 0, 3)},
		{rect(0, 0, 5, 5), 1, 3, rect(1, 2, 3, 0)},
		{rect(-7, -9, 7, 9), 10, 10, rect(-4, -5, 0, 0)},
		{rect(4, 6, 1, 1), 1, 1, rect(4, 6, 0, 0)},
		{rect(4, 6, 0, 0), 10, 10, rect(4, 6, 0, 0)},
		{rect(4, 6, 20, 19), 10, 10, rect(14, 15, 0, 0)},
		{rect(4, 6, 21, 22), 10, 10, rect(14, 16, 1, 2)},
		{rect(-1000, 600, 400, 400), 10, 0, rect(-990, 600, 380, 400)},
		{rect(600, -1000, 400, 400), 0, 10, rect(600, -990, 400, 380)},
		{rect(1000, -1000, 0, 1), 10, 10, rect(1000, -1000, 0, 0)},
	} {
		if got := impl.InsetRect(c.r, c.px, c.py); got != c.want {
			t.Errorf("InsetRect(%v, %d, %d) = %v", c.r, c.px, c.py, got)
		}
	}
}

func TestInsetRectInvalid(t *testing.T) {
	for _, r := range badRects() {
		for _, p := range []int{0, 1, 10} {
			if got := impl.InsetRect(r, p, p); got != none {
				t.Errorf("InsetRect(%v, %d, %d) = %v", r, p, p, got)
			}
		}
	}
	r := rect(5, 6, 70, 80)
	for _, p := range beyond(0, 10) {
		if got := impl.InsetRect(r, p, 0); got != none {
			t.Errorf("InsetRect(%v, %d, 0) = %v", r, p, got)
		}
		if got := impl.InsetRect(r, 0, p); got != none {
			t.Errorf("InsetRect(%v, 0, %d) = %v", r, p, got)
		}
	}
}

func TestCutRect(t *testing.T) {
	a := rect(-3, 4, 10, 7)
	for _, c := range []struct {
		r           impl.Rect
		side, n     int
		piece, rest impl.Rect
	}{
		{a, impl.SdTop, 3, rect(-3, 4, 10, 3), rect(-3, 7, 10, 4)},
		{a, impl.SdBottom, 3, rect(-3, 8, 10, 3), rect(-3, 4, 10, 4)},
		{a, impl.SdLeft, 3, rect(-3, 4, 3, 7), rect(0, 4, 7, 7)},
		{a, impl.SdRight, 3, rect(4, 4, 3, 7), rect(-3, 4, 7, 7)},
		{a, impl.SdTop, 0, rect(-3, 4, 10, 0), a},
		{a, impl.SdBottom, 0, rect(-3, 11, 10, 0), a},
		{a, impl.SdLeft, 0, rect(-3, 4, 0, 7), a},
		{a, impl.SdRight, 0, rect(7, 4, 0, 7), a},
		{a, impl.SdTop, 7, a, rect(-3, 11, 10, 0)},
		{a, impl.SdTop, 8, a, rect(-3, 11, 10, 0)},
		{a, impl.SdBottom, 8, a, rect(-3, 4, 10, 0)},
		{a, impl.SdLeft, 11, a, rect(7, 4, 0, 7)},
		{a, impl.SdRight, 11, a, rect(-3, 4, 0, 7)},
		{a, impl.SdRight, 400, a, rect(-3, 4, 0, 7)},
		{rect(2, 3, 0, 0), impl.SdBottom, 5, rect(2, 3, 0, 0), rect(2, 3, 0, 0)},
		{rect(2, 3, 0, 9), impl.SdRight, 5, rect(2, 3, 0, 9), rect(2, 3, 0, 9)},
		{rect(2, 3, 0, 9), impl.SdTop, 5, rect(2, 3, 0, 5), rect(2, 8, 0, 4)},
		{rect(600, 600, 400, 400), impl.SdBottom, 399, rect(600, 601, 400, 399), rect(600, 600, 400, 1)},
		{rect(-1000, -1000, 400, 400), impl.SdRight, 400, rect(-1000, -1000, 400, 400), rect(-1000, -1000, 0, 400)},
	} {
		if piece, rest := impl.CutRect(c.r, c.side, c.n); piece != c.piece || rest != c.rest {
			t.Errorf("CutRect(%v, %d, %d) = %v, %v", c.r, c.side, c.n, piece, rest)
		}
	}
}

func TestCutRectInvalid(t *testing.T) {
	for _, r := range badRects() {
		for side := range 4 {
			if piece, rest := impl.CutRect(r, side, 2); piece != none || rest != none {
				t.Errorf("CutRect(%v, %d, 2) = %v, %v", r, side, piece, rest)
			}
		}
	}
	r := rect(5, 6, 70, 80)
	for side := range 4 {
		for _, n := range beyond(0, 400) {
			if piece, rest := impl.CutRect(r, side, n); piece != none || rest != none {
				t.Errorf("CutRect(%v, %d, %d) = %v, %v", r, side, n, piece, rest)
			}
		}
	}
	for _, side := range append(beyond(0, 3), 5, 6) {
		if piece, rest := impl.CutRect(r, side, 2); piece != none || rest != none {
			t.Errorf("CutRect(%v, %d, 2) = %v, %v", r, side, piece, rest)
		}
	}
}

func TestAnchorRect(t *testing.T) {
	a := rect(10, -20, 9, 8)
	for anchor, at := range [][2]int{{10, -20}, {12, -20}, {15, -20}, {10, -19}, {12, -19}, {15, -19}, {10, -17}, {12, -17}, {15, -17}} {
		if got := impl.AnchorRect(a, 4, 5, anchor); got != rect(at[0], at[1], 4, 5) {
			t.Errorf("AnchorRect(%v, 4, 5, %d) = %v", a, anchor, got)
		}
	}
	for _, c := range []struct {
		r            impl.Rect
		w, h, anchor int
		want         impl.Rect
	}{
		{rect(0, 0, 10, 8), 99, 3, 7, rect(0, 5, 10, 3)},
		{rect(0, 0, 10, 8), 3, 99, 5, rect(7, 0, 3, 8)},
		{rect(0, 0, 10, 8), 400, 400, 8, rect(0, 0, 10, 8)},
		{rect(0, 0, 10, 8), 0, 0, 4, rect(5, 4, 0, 0)},
		{rect(0, 0, 10, 8), 0, 0, 8, rect(10, 8, 0, 0)},
		{rect(0, 0, 11, 8), 4, 5, 4, rect(3, 1, 4, 5)},
		{rect(-9, -9, 4, 4), 1, 1, 4, rect(-8, -8, 1, 1)},
		{rect(3, 4, 0, 0), 5, 5, 4, rect(3, 4, 0, 0)},
		{rect(3, 4, 0, 7), 5, 2, 4, rect(3, 6, 0, 2)},
		{rect(-1000, 600, 400, 400), 1, 1, 8, rect(-601, 999, 1, 1)},
		{rect(1000, -1000, 0, 0), 400, 400, 8, rect(1000, -1000, 0, 0)},
	} {
		if got := impl.AnchorRect(c.r, c.w, c.h, c.anchor); got != c.want {
			t.Errorf("AnchorRect(%v, %d, %d, %d) = %v", c.r, c.w, c.h, c.anchor, got)
		}
	}
}

func TestAnchorRectInvalid(t *testing.T) {
	for _, r := range badRects() {
		for anchor := range 9 {
			if got := impl.AnchorRect(r, 2, 3, anchor); got != none {
				t.Errorf("AnchorRect(%v, 2, 3, %d) = %v", r, anchor, got)
			}
		}
	}
	r := rect(5, 6, 70, 80)
	for _, n := range beyond(0, 400) {
		for anchor := range 9 {
			if w, h := impl.AnchorRect(r, n, 3, anchor), impl.AnchorRect(r, 3, n, anchor); w != none || h != none {
				t.Errorf("AnchorRect of %v with %d at %d = %v, %v", r, n, anchor, w, h)
			}
		}
	}
	for _, anchor := range append(beyond(0, 8), 10, 11, 12, -3) {
		if got := impl.AnchorRect(r, 2, 3, anchor); got != none {
			t.Errorf("AnchorRect(%v, 2, 3, %d) = %v", r, anchor, got)
		}
	}
}

func TestAreaOf(t *testing.T) {
	for _, r := range smallRects() {
		if got := impl.AreaOf(r); got != len(points(r)) {
			t.Errorf("AreaOf(%v) = %d", r, got)
		}
	}
	if impl.AreaOf(rect(600, 600, 400, 400)) != 160000 || impl.AreaOf(rect(-1000, 5, 400, 3)) != 1200 || impl.AreaOf(rect(7, 7, 400, 0)) != 0 {
		t.Error("AreaOf at the limits")
	}
	for _, r := range append(badRects(), rect(0, 0, -2, -3), rect(0, 0, math.MinInt, 2)) {
		if got := impl.AreaOf(r); got != -1 {
			t.Errorf("AreaOf(%v) = %d", r, got)
		}
	}
}
