package tests

import (
	"slices"

	"loop.example/widgetroom/impl"
)

// hang is how an item is placed across, or down: its place and its size, fixed and in thousandths.
type hang struct{ at, rel, size, relSize int }

// placed returns the item that is placed so across and down, at an anchor.
func placed(across, down hang, anchor int) impl.Place {
	return impl.Place{X: across.at, RelX: across.rel, W: across.size, RelW: across.relSize, Y: down.at, RelY: down.rel, H: down.size, RelH: down.relSize, Anchor: anchor}
}

// acrossOf returns how an item is placed across.
func acrossOf(p impl.Place) hang {
	return hang{p.X, p.RelX, p.W, p.RelW}
}

// downOf returns how an item is placed down.
func downOf(p impl.Place) hang {
	return hang{p.Y, p.RelY, p.H, p.RelH}
}

// fixedPlace returns an item without thousandths.
func fixedPlace(x, y, w, h, anchor int) impl.Place {
	return impl.Place{X: x, Y: y, W: w, H: h, Anchor: anchor}
}

// edgeHangs returns how items are placed at the limits, with sizes below 0, without points, outside, and with thousandths that leave a rest.
func edgeHangs() []hang {
	return []hang{
		{0, 0, 0, 0}, {3, 0, 10, 0}, {-3, 0, 7, 0}, {0, 500, 9, 0}, {0, 1000, 4, 0}, {5, 0, -10, 1000}, {-5, 999, -1, 0}, {-7, 333, -2, 667}, {1, 1, -1, 1},
		{-1, 3, 1, 3}, {-9, 1000, 0, 999}, {-8, 1000, 0, 1000}, {0, 0, 0, 1000}, {0, 0, 1, 1000}, {300, 1000, 300, 1000}, {-300, 0, -300, 0}, {-300, 1000, 300, 1000}, {300, 0, 100, 0}, {300, 0, 101, 0},
	}
}

// edgePlaces returns items that are placed in each way that edgeHangs tells, across, down, and at each anchor.
func edgePlaces() []impl.Place {
	var list []impl.Place
	for _, across := range edgeHangs() {
		for _, down := range edgeHangs() {
			for anchor := range 9 {
				list = append(list, placed(across, down, anchor))
			}
		}
	}
	return list
}

// mixedHang returns a way to be placed, with some of its numbers 0.
func mixedHang(r *row) hang {
	most, mostRel := []int{3, 40, 300}[r.upTo(2)], []int{0, 500, 1000}[r.upTo(2)]
	mostSize := []int{0, 30, 300}[r.upTo(2)]
	return hang{r.upTo(2*most) - most, r.upTo(mostRel), r.upTo(2*mostSize) - mostSize, r.upTo(mostRel)}
}

// mixedPlaces returns items of all sorts that are placed.
func mixedPlaces() []impl.Place {
	r := &row{}
	var list []impl.Place
	for n := range 3000 {
		list = append(list, placed(mixedHang(r), mixedHang(r), n%9))
	}
	return list
}

// goodPlaces returns items of all sorts that are placed, also those at the limits.
func goodPlaces() []impl.Place {
	return append(edgePlaces(), mixedPlaces()...)
}

// badPlaces returns items of which one number is not valid.
func badPlaces() []impl.Place {
	var list []impl.Place
	for _, good := range []impl.Place{{}, placed(hang{3, 250, 4, 100}, hang{5, 0, 6, 500}, 4), placed(hang{300, 1000, 300, 1000}, hang{-300, 0, -300, 0}, 8)} {
		for _, field := range []struct {
			set         func(p *impl.Place, n int)
			least, most int
		}{
			{func(p *impl.Place, n int) { p.X = n }, -300, 300},
			{func(p *impl.Place, n int) { p.Y = n }, -300, 300},
			{func(p *impl.Place, n int) { p.W = n }, -300, 300},
			{func(p *impl.Place, n int) { p.H = n }, -300, 300},
			{func(p *impl.Place, n int) { p.RelX = n }, 0, 1000},
			{func(p *impl.Place, n int) { p.RelY = n }, 0, 1000},
			{func(p *impl.Place, n int) { p.RelW = n }, 0, 1000},
			{func(p *impl.Place, n int) { p.RelH = n }, 0, 1000},
			{func(p *impl.Place, n int) { p.Anchor = n }, 0, 8},
		} {
			for _, n := range beyond(field.least, field.most) {
				bad := good
				field.set(&bad, n)
				list = append(list, bad)
			}
		}
	}
	return list
}

// placeSizes returns sizes in which items are placed.
func placeSizes() []size {
	return []size{{0, 0}, {1, 1}, {3, 4}, {13, 9}, {100, 40}, {0, 400}, {400, 0}, {251, 333}, {400, 400}}
}

// badSizes returns sizes in which nothing is placed.
func badSizes() []size {
	var list []size
	for _, n := range beyond(0, 400) {
		list = append(list, size{n, 5}, size{5, n}, size{n, n})
	}
	return list
}

// spot is a place across and down.
type spot struct{ x, y int }

// eachPlacing calls a function with items of all sorts in sizes of all sorts.
func eachPlacing(do func(p impl.Place, w, h int)) {
	for _, p := range goodPlaces() {
		for _, s := range placeSizes() {
			do(p, s.w, s.h)
		}
	}
}

// The functions below say what the document says, across and down alike, as directly as they can.

// wantHung returns the place and the size of an item in a room, with the third of its anchor that is asked for: at its beginning, its middle, or its end.
func wantHung(h hang, third, room int) stretch {
	// Both numbers are thousandths here: one that is at least 0 loses its rest, and one below 0 is none.
	long := max(h.size*1000+h.relSize*room, 0) / 1000
	point := h.at + h.rel*room/1000
	ahead := []int{0, long / 2, long}[third]
	return stretch{point - ahead, long}
}

// wantPlaced returns the rectangle of an item.
func wantPlaced(p impl.Place, w, h int) impl.Rect {
	across, down := wantHung(acrossOf(p), p.Anchor%3, w), wantHung(downOf(p), p.Anchor/3, h)
	return rect(across.at, down.at, across.size, down.size)
}

// wantInside reports whether an item lies in the rectangle in which it is placed.
func wantInside(p impl.Place, w, h int) bool {
	return liesIn(rect(0, 0, w, h), wantPlaced(p, w, h))
}

// wantLeast returns the least size in which an item lies inside.
func wantLeast(p impl.Place) int {
	var list []int
	for n := range 401 {
		list = append(list, n)
	}
	return slices.IndexFunc(list, func(n int) bool { return wantInside(p, n, n) })
}

// wantShift looks for a number with which an item is at a place in a room.
func wantShift(h hang, third, room, place int) (int, bool) {
	for h.at = -300; h.at <= 300; h.at++ {
		if wantHung(h, third, room).at == place {
			return h.at, true
		}
	}
	return 0, false
}

// wantAt returns an item that is at a place.
func wantAt(p impl.Place, w, h, x, y int) (impl.Place, bool) {
	var okX, okY bool
	p.X, okX = wantShift(acrossOf(p), p.Anchor%3, w, x)
	p.Y, okY = wantShift(downOf(p), p.Anchor/3, h, y)
	if !okX || !okY {
		return impl.Place{}, false
	}
	return p, true
}

// wantFixed returns an item without thousandths.
func wantFixed(p impl.Place, w, h int) (impl.Place, bool) {
	now := wantPlaced(p, w, h)
	if now.W > 300 || now.H > 300 {
		return impl.Place{}, false
	}
	return wantAt(fixedPlace(0, 0, now.W, now.H, p.Anchor), w, h, now.X, now.Y)
}
