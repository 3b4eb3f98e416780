package tests

import (
	"slices"

	"loop.example/widgetroom/impl"
)

// item returns an item that is packed in the middle of its parcel.
func item(side, w, h int) impl.Pack {
	return impl.Pack{Side: side, W: w, H: h, Anchor: 4}
}

// growing returns an item that is packed in the middle of its parcel and expands.
func growing(side, w, h int) impl.Pack {
	p := item(side, w, h)
	p.Expand = true
	return p
}

// size is a width and a height.
type size struct{ w, h int }

// isDown reports whether an item is at the top or the bottom.
func isDown(p impl.Pack) bool {
	return p.Side == impl.SdTop || p.Side == impl.SdBottom
}

// along returns one of a height and a width.
func along(down bool, w, h int) int {
	if down {
		return h
	}
	return w
}

// needs returns the size of an item with the room on each side of it.
func needs(p impl.Pack) size {
	return size{p.PadX + p.W + p.PadX, p.PadY + p.H + p.PadY}
}

// goodItems returns valid items, with each number at its limits and between them.
func goodItems() []impl.Pack {
	var list []impl.Pack
	for _, wish := range []size{{0, 0}, {0, 30}, {30, 0}, {30, 30}, {7, 12}} {
		for side := range 4 {
			for anchor := range 9 {
				for _, pad := range []size{{0, 0}, {10, 0}, {0, 10}, {10, 10}, {3, 4}} {
					for bits := range 8 {
						list = append(list, impl.Pack{W: wish.w, H: wish.h, Side: side, FillX: bits&1 > 0, FillY: bits&2 > 0, Expand: bits&4 > 0, Anchor: anchor, PadX: pad.w, PadY: pad.h})
					}
				}
			}
		}
	}
	return list
}

// badItems returns items of which one number is not valid.
func badItems() []impl.Pack {
	var list []impl.Pack
	for _, good := range []impl.Pack{{}, growing(impl.SdTop, 5, 6), growing(impl.SdRight, 30, 30)} {
		for _, field := range []struct {
			set  func(p *impl.Pack, n int)
			most int
		}{
			{func(p *impl.Pack, n int) { p.W = n }, 30},
			{func(p *impl.Pack, n int) { p.H = n }, 30},
			{func(p *impl.Pack, n int) { p.Side = n }, 3},
			{func(p *impl.Pack, n int) { p.Anchor = n }, 8},
			{func(p *impl.Pack, n int) { p.PadX = n }, 10},
			{func(p *impl.Pack, n int) { p.PadY = n }, 10},
		} {
			for _, n := range beyond(0, field.most) {
				bad := good
				field.set(&bad, n)
				list = append(list, bad)
			}
		}
	}
	return list
}

// badLists returns lists that cannot be packed: with an item that is not valid at each place, or with too many.
func badLists() [][]impl.Pack {
	var lists [][]impl.Pack
	for _, bad := range badItems() {
		lists = append(lists, []impl.Pack{bad})
		for at := range 3 {
			list := []impl.Pack{growing(impl.SdTop, 1, 2), growing(impl.SdLeft, 3, 4), growing(impl.SdBottom, 5, 6)}
			list[at] = bad
			lists = append(lists, list)
		}
	}
	for many := impl.MaxPacks + 1; many <= 20; many += 6 {
		lists = append(lists, make([]impl.Pack, many), slices.Repeat([]impl.Pack{growing(impl.SdTop, 1, 1)}, many))
	}
	last := slices.Repeat([]impl.Pack{growing(impl.SdLeft, 2, 2)}, impl.MaxPacks)
	last[impl.MaxPacks-1].W = impl.MaxWish + 1
	return append(lists, last)
}

// shortLists returns all lists of at most 3 items of some kinds: on each side, expanding or not, and also such that ask for nothing.
func shortLists() [][]impl.Pack {
	var kinds []impl.Pack
	for side := range 4 {
		kinds = append(kinds, item(side, 3, 2), growing(side, 2, 5), growing(side, 0, 0))
	}
	lists := [][]impl.Pack{nil}
	for from, many := 0, 0; many < 3; many++ {
		to := len(lists)
		for _, list := range lists[from:to] {
			for _, p := range kinds {
				lists = append(lists, append(slices.Clone(list), p))
			}
		}
		from = to
	}
	return lists
}

// row is a fixed row of numbers without an order that is easily seen.
type row struct{ now uint64 }

// upTo returns the next number of the row, in 0..most.
func (r *row) upTo(most int) int {
	r.now = r.now*6364136223846793005 + 1442695040888963407
	return int(r.now >> 33 % uint64(most+1))
}

// yes returns the next number of the row as a bool.
func (r *row) yes() bool {
	return r.upTo(1) == 1
}

// mixedLists returns lists of 1..MaxPacks valid items of all sorts, some of them without any that expands.
func mixedLists() [][]impl.Pack {
	var lists [][]impl.Pack
	r := &row{}
	for n := range 1400 {
		list := make([]impl.Pack, n%impl.MaxPacks+1)
		mostWish, mostPad, least := []int{30, 3, 9}[r.upTo(2)], []int{0, 2, 10}[r.upTo(2)], r.upTo(1)
		grows := r.upTo(2)
		for i := range list {
			list[i] = impl.Pack{W: least + r.upTo(mostWish-least), H: least + r.upTo(mostWish-least), Side: r.upTo(3), FillX: r.yes(), FillY: r.yes(), Expand: r.upTo(2) < grows, Anchor: r.upTo(8), PadX: r.upTo(mostPad), PadY: r.upTo(mostPad)}
		}
		lists = append(lists, list)
	}
	return lists
}

// goodLists returns lists of all sorts that can be packed.
func goodLists() [][]impl.Pack {
	lists := append(shortLists(), mixedLists()...)
	for side := range 4 {
		for _, p := range []impl.Pack{{Side: side}, growing(side, 0, 0), growing(side, 1, 1), growing(side, 30, 30), item(side, 30, 30)} {
			p.PadX, p.PadY = p.W/3, p.H/3
			lists = append(lists, slices.Repeat([]impl.Pack{p}, impl.MaxPacks))
		}
	}
	return lists
}

// sizesFor returns the sizes in which items are to be packed: as great as they need, a little less and more, none, and as great as can be.
func sizesFor(list []impl.Pack) []size {
	w, h := wantRequest(list)
	var sizes []size
	for _, s := range []size{{w, h}, {w - 1, h}, {w, h - 1}, {w / 2, h / 2}, {w + 1, h}, {w, h + 1}, {w + 7, h + 10}, {w + 23, h / 2}, {w / 2, h + 23}, {0, 0}, {0, 400}, {400, 0}, {400, 400}, {20, 15}} {
		sizes = append(sizes, size{min(max(s.w, 0), 400), min(max(s.h, 0), 400)})
	}
	return sizes
}

// eachPacking calls a function with lists of all sorts in sizes of all sorts.
func eachPacking(do func(list []impl.Pack, w, h int)) {
	for _, list := range goodLists() {
		for _, s := range sizesFor(list) {
			do(list, s.w, s.h)
		}
	}
}

// The functions below say what the document says, also of more and greater items than it allows, as directly as they can.

// wantRequest returns the size that items need.
func wantRequest(list []impl.Pack) (int, int) {
	if len(list) == 0 {
		return 0, 0
	}
	own := needs(list[0])
	w, h := wantRequest(list[1:])
	if isDown(list[0]) {
		return max(own.w, w), own.h + h
	}
	return own.w + w, max(own.h, h)
}

// wantShare returns how much more than it needs the first item, which expands, may have.
func wantShare(list []impl.Pack, room int, down bool) int {
	answers := []int{room}
	taken, count := 0, 0
	for _, p := range list {
		need := along(down, needs(p).w, needs(p).h)
		if isDown(p) != down {
			answers = append(answers, max(0, room-taken-need)/count)
			continue
		}
		taken += need
		if p.Expand {
			count++
		}
	}
	answers = append(answers, max(0, room-taken)/count)
	return slices.Min(answers)
}

// wantParcels returns the parcels of items, and what is left.
func wantParcels(list []impl.Pack, w, h int) ([]impl.Rect, impl.Rect) {
	var parcels []impl.Rect
	left := rect(0, 0, w, h)
	for i, p := range list {
		down := isDown(p)
		n := along(down, needs(p).w, needs(p).h)
		if p.Expand {
			n += wantShare(list[i:], along(down, left.W, left.H), down)
		}
		piece, rest := wantCut(left, p.Side, n)
		parcels, left = append(parcels, piece), rest
	}
	return parcels, left
}

// wantRect returns the rectangle of an item in its parcel.
func wantRect(p impl.Pack, parcel impl.Rect) impl.Rect {
	inner := wantInset(parcel, p.PadX, p.PadY)
	w, h := p.W, p.H
	if p.FillX {
		w = inner.W
	}
	if p.FillY {
		h = inner.H
	}
	return wantAnchored(inner, w, h, p.Anchor)
}
