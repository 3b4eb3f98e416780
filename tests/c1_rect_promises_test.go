package tests

import (
	"testing"

	"loop.example/widgetroom/impl"
)

func TestPromise1RectanglesLieInThemselves(t *testing.T) {
	for _, r := range validRects() {
		if !impl.InsideRect(r, r) {
			t.Errorf("%v is not inside itself", r)
		}
		for anchor := range 9 {
			if got := impl.AnchorRect(r, r.W, r.H, anchor); got != r {
				t.Errorf("AnchorRect of the size of %v at %d = %v", r, anchor, got)
			}
		}
	}
}

func TestPromise2PointsLieInRectanglesOfOnePoint(t *testing.T) {
	for _, r := range smallRects() {
		for x := -3; x <= 7; x++ {
			for y := -3; y <= 7; y++ {
				if impl.HasPoint(r, x, y) != impl.InsideRect(r, rect(x, y, 1, 1)) {
					t.Errorf("the point %d, %d and the rectangle %v", x, y, r)
				}
			}
		}
	}
	for _, r := range limitRects() {
		for _, x := range []int{-1001, -1000, -601, -600, -1, 0, 600, 998, 999, 1000, 1001} {
			for _, y := range []int{-1001, -1000, -600, -599, 0, 601, 998, 999, 1000} {
				if impl.HasPoint(r, x, y) != impl.InsideRect(r, rect(x, y, 1, 1)) {
					t.Errorf("the point %d, %d and the rectangle %v", x, y, r)
				}
			}
		}
	}
}

func TestPromise3WhatIsCommonIsInBoth(t *testing.T) {
	met := 0
	for _, a := range validRects() {
		for _, b := range validRects() {
			m, ok := impl.MeetRects(a, b)
			back, backOk := impl.MeetRects(b, a)
			if m != back || ok != backOk {
				t.Errorf("MeetRects(%v, %v) is another one the other way round", a, b)
			}
			if !ok {
				if impl.AreaOf(b) > 0 && impl.InsideRect(a, b) {
					t.Errorf("MeetRects(%v, %v) = false, but the second one lies inside", a, b)
				}
				continue
			}
			met++
			if !impl.InsideRect(a, m) || !impl.InsideRect(b, m) || impl.InsideRect(a, b) && m != b {
				t.Errorf("MeetRects(%v, %v) = %v", a, b, m)
			}
		}
	}
	if met == 0 {
		t.Error("no two rectangles meet")
	}
}

func TestPromise4CommonPointsAreThoseOfBoth(t *testing.T) {
	inBoth := func(a, b impl.Rect, x, y int) bool {
		return impl.HasPoint(a, x, y) && impl.HasPoint(b, x, y)
	}
	for _, a := range validRects() {
		for _, b := range validRects() {
			m, ok := impl.MeetRects(a, b)
			if !ok {
				continue
			}
			right, bottom := m.X+m.W-1, m.Y+m.H-1
			for _, p := range [][2]int{{m.X, m.Y}, {right, m.Y}, {m.X, bottom}, {right, bottom}} {
				if !inBoth(a, b, p[0], p[1]) {
					t.Errorf("the corner %v of MeetRects(%v, %v) is no point of both", p, a, b)
				}
			}
			for _, p := range [][2]int{{m.X - 1, m.Y}, {m.X, m.Y - 1}, {right + 1, bottom}, {right, bottom + 1}, {m.X - 1, bottom}, {right, m.Y - 1}, {right + 1, m.Y}, {m.X, bottom + 1}} {
				if inBoth(a, b, p[0], p[1]) {
					t.Errorf("%v outside MeetRects(%v, %v) is a point of both", p, a, b)
				}
			}
		}
	}
}

func TestPromise5WhatCoversHasBoth(t *testing.T) {
	for _, a := range validRects() {
		for _, b := range validRects() {
			c, ok := impl.CoverRects(a, b)
			back, backOk := impl.CoverRects(b, a)
			if c != back || ok != backOk {
				t.Errorf("CoverRects(%v, %v) is another one the other way round", a, b)
			}
			if ok && (!impl.InsideRect(c, a) || !impl.InsideRect(c, b)) {
				t.Errorf("CoverRects(%v, %v) = %v", a, b, c)
			}
			if impl.InsideRect(a, b) && (!ok || c != a) {
				t.Errorf("CoverRects(%v, %v) = %v, %v, but the second one lies inside", a, b, c, ok)
			}
		}
	}
}

func TestPromise6InsideGoesOn(t *testing.T) {
	for _, a := range validRects() {
		for _, b := range validRects() {
			if both := impl.InsideRect(a, b) && impl.InsideRect(b, a); both != (a == b) {
				t.Errorf("InsideRect of %v and %v both ways: %v", a, b, both)
			}
			if c, ok := impl.CoverRects(a, b); impl.InsideRect(a, b) != (ok && c == a) {
				t.Errorf("InsideRect(%v, %v), but CoverRects = %v, %v", a, b, c, ok)
			}
		}
	}
}

func TestPromise7MovedBackIsAsBefore(t *testing.T) {
	steps := []int{-1000, -400, -3, 0, 1, 5, 400, 999, 1000}
	for _, r := range validRects() {
		for _, dx := range steps {
			for _, dy := range steps {
				m, ok := impl.MoveRect(r, dx, dy)
				if ok != impl.ValidRect(rect(r.X+dx, r.Y+dy, r.W, r.H)) {
					t.Errorf("MoveRect(%v, %d, %d) = %v, %v", r, dx, dy, m, ok)
				}
				if !ok {
					continue
				}
				if m.X-r.X != dx || m.Y-r.Y != dy || impl.AreaOf(m) != impl.AreaOf(r) {
					t.Errorf("MoveRect(%v, %d, %d) = %v", r, dx, dy, m)
				}
				if back, ok := impl.MoveRect(m, -dx, -dy); !ok || back != r {
					t.Errorf("MoveRect(%v, %d, %d) moved back = %v, %v", r, dx, dy, back, ok)
				}
			}
		}
	}
}

func TestPromise8InsetsLieInside(t *testing.T) {
	for _, r := range validRects() {
		if got := impl.InsetRect(r, 0, 0); got != r {
			t.Errorf("InsetRect(%v, 0, 0) = %v", r, got)
		}
		for px := range impl.MaxPad + 1 {
			for py := range impl.MaxPad + 1 {
				got := impl.InsetRect(r, px, py)
				if !impl.InsideRect(r, got) || got.W != max(r.W-2*px, 0) || got.H != max(r.H-2*py, 0) {
					t.Errorf("InsetRect(%v, %d, %d) = %v", r, px, py, got)
				}
			}
		}
	}
}

func TestPromise9PiecesAndRestsAreAll(t *testing.T) {
	for _, r := range validRects() {
		for side := range 4 {
			for _, n := range []int{0, 1, 2, 3, 4, 7, 199, 399, 400} {
				piece, rest := impl.CutRect(r, side, n)
				if impl.AreaOf(piece)+impl.AreaOf(rest) != impl.AreaOf(r) || !impl.InsideRect(r, piece) || !impl.InsideRect(r, rest) {
					t.Errorf("CutRect(%v, %d, %d) = %v, %v", r, side, n, piece, rest)
				}
				if m, ok := impl.MeetRects(piece, rest); ok {
					t.Errorf("CutRect(%v, %d, %d) has %v in common", r, side, n, m)
				}
				size, all := piece.H, r.H
				if side == impl.SdLeft || side == impl.SdRight {
					size, all = piece.W, r.W
				}
				if size != min(n, all) {
					t.Errorf("CutRect(%v, %d, %d) = %v, which is not as great", r, side, n, piece)
				}
			}
		}
	}
}

func TestPromise10AnchoredRectanglesLieInside(t *testing.T) {
	for _, r := range validRects() {
		for _, w := range []int{0, 1, 2, 5, 399, 400} {
			for _, h := range []int{0, 1, 2, 5, 399, 400} {
				for anchor := range 9 {
					got := impl.AnchorRect(r, w, h, anchor)
					if !impl.InsideRect(r, got) || got.W != min(w, r.W) || got.H != min(h, r.H) {
						t.Errorf("AnchorRect(%v, %d, %d, %d) = %v", r, w, h, anchor, got)
					}
				}
				first, last := impl.AnchorRect(r, w, h, 0), impl.AnchorRect(r, w, h, 8)
				if first.X != r.X || first.Y != r.Y || last.X+last.W != r.X+r.W || last.Y+last.H != r.Y+r.H {
					t.Errorf("AnchorRect(%v, %d, %d) at the ends = %v, %v", r, w, h, first, last)
				}
			}
		}
	}
}

func TestPromise11AreasAreOfPoints(t *testing.T) {
	for _, r := range validRects() {
		for side := range 4 {
			half := r.H / 2
			if side == impl.SdLeft || side == impl.SdRight {
				half = r.W / 2
			}
			piece, rest := impl.CutRect(r, side, half)
			if got := impl.AreaOf(r); got != impl.AreaOf(piece)+impl.AreaOf(rest) || got != r.W*r.H {
				t.Errorf("AreaOf(%v) = %d, and of its pieces %v and %v = %d and %d", r, got, piece, rest, impl.AreaOf(piece), impl.AreaOf(rest))
			}
		}
	}
}
