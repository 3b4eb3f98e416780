package tests

import (
	"slices"
	"testing"

	"loop.example/widgetroom/impl"
)

func TestPromise12ItemsCanAskForNothing(t *testing.T) {
	for _, p := range goodItems() {
		if !impl.ValidPack(p) {
			t.Errorf("%+v is not valid", p)
		}
		for side := range 4 {
			for _, wish := range []size{{p.W, p.H}, {0, p.H}, {p.W, 0}, {0, 0}} {
				q := p
				q.Side, q.W, q.H = side, wish.w, wish.h
				if !impl.ValidPack(q) {
					t.Errorf("%+v is not valid", q)
				}
			}
		}
	}
}

func TestPromise13RequestsGrowWithItems(t *testing.T) {
	other := [4]int{impl.SdBottom, impl.SdTop, impl.SdRight, impl.SdLeft}
	for _, list := range goodLists() {
		w, h := impl.PackRequest(list)
		if w < 0 || h < 0 {
			t.Errorf("PackRequest(%+v) = %d, %d", list, w, h)
		}
		for from := range list {
			if behindW, behindH := impl.PackRequest(list[from:]); behindW > w || behindH > h {
				t.Errorf("PackRequest(%+v) = %d, %d, and of the items from %d on %d, %d", list, w, h, from, behindW, behindH)
			}
		}
		turned := slices.Clone(list)
		for i := range turned {
			turned[i].Side = other[turned[i].Side]
			if turnedW, turnedH := impl.PackRequest(turned); turnedW != w || turnedH != h {
				t.Errorf("PackRequest(%+v) = %d, %d, and with other ends up to %d %d, %d", list, w, h, i, turnedW, turnedH)
			}
		}
	}
}

func TestPromise14SharesLeaveRoomForAll(t *testing.T) {
	some := 0
	for _, list := range goodLists() {
		if len(list) == 0 || !list[0].Expand {
			continue
		}
		down := isDown(list[0])
		w, h := impl.PackRequest(list)
		need := along(down, w, h)
		for _, room := range []int{0, need / 2, need - 1, need, need + 1, need + 2, need + 13, 400} {
			room = min(max(room, 0), 400)
			got := impl.ExpandShare(list, room, down)
			if got < 0 || got > max(room-need, 0) {
				t.Errorf("ExpandShare(%+v, %d, %v) = %d, but %d is needed", list, room, down, got, need)
			}
			some = max(some, got)
		}
	}
	if some == 0 {
		t.Error("nothing is shared")
	}
}

func TestPromise15ParcelsAndWhatIsLeftAreAll(t *testing.T) {
	eachPacking(func(list []impl.Pack, w, h int) {
		all := rect(0, 0, w, h)
		parcels := impl.PackParcels(list, w, h)
		if len(parcels) != len(list) {
			t.Fatalf("PackParcels(%+v, %d, %d) = %v", list, w, h, parcels)
		}
		pieces := append(slices.Clone(parcels), impl.PackLeft(list, w, h))
		area := 0
		for i, p := range pieces {
			area += impl.AreaOf(p)
			if !impl.InsideRect(all, p) {
				t.Errorf("%v of %+v lies not in %v", p, list, all)
			}
			for _, q := range pieces[:i] {
				if m, ok := impl.MeetRects(p, q); ok {
					t.Errorf("%v and %v of %+v in %v have %v in common", p, q, list, all, m)
				}
			}
		}
		if area != w*h {
			t.Errorf("%v of %+v are %d of %v", pieces, list, area, all)
		}
	})
}

func TestPromise16ParcelsAreCutOneByOne(t *testing.T) {
	some := 0
	eachPacking(func(list []impl.Pack, w, h int) {
		if len(list) == 0 || slices.ContainsFunc(list, func(p impl.Pack) bool { return p.Expand }) {
			return
		}
		last := len(list) - 1
		parcels, fewer := impl.PackParcels(list, w, h), impl.PackParcels(list[:last], w, h)
		if len(parcels) != len(list) || !slices.Equal(fewer, parcels[:last]) {
			t.Errorf("PackParcels(%+v, %d, %d) = %v, and without the last one %v", list, w, h, parcels, fewer)
		}
		piece, rest := impl.CutRect(impl.PackLeft(list[:last], w, h), list[last].Side, along(isDown(list[last]), needs(list[last]).w, needs(list[last]).h))
		if parcels[last] != piece || impl.PackLeft(list, w, h) != rest {
			t.Errorf("PackParcels(%+v, %d, %d) = %v, and the last one is not cut off what is left", list, w, h, parcels)
		}
		some++
	})
	if some == 0 {
		t.Error("all lists have items that expand")
	}
}

func TestPromise17WhatIsLeftIsARectangle(t *testing.T) {
	eachPacking(func(list []impl.Pack, w, h int) {
		left := impl.PackLeft(list, w, h)
		if !impl.ValidRect(left) || !impl.InsideRect(rect(0, 0, w, h), left) {
			t.Errorf("PackLeft(%+v, %d, %d) = %v", list, w, h, left)
		}
		if len(list) > 0 && list[len(list)-1].Expand && impl.AreaOf(left) != 0 {
			t.Errorf("PackLeft(%+v, %d, %d) = %v, but the last one expands", list, w, h, left)
		}
	})
}

func TestPromise18RectanglesLieInTheirParcels(t *testing.T) {
	eachPacking(func(list []impl.Pack, w, h int) {
		parcels, rects := impl.PackParcels(list, w, h), impl.PackRects(list, w, h)
		if len(parcels) != len(list) || len(rects) != len(list) {
			t.Fatalf("%+v in %d, %d: %v, %v", list, w, h, parcels, rects)
		}
		for i, p := range list {
			inner := impl.InsetRect(parcels[i], p.PadX, p.PadY)
			if !impl.InsideRect(parcels[i], rects[i]) || !impl.InsideRect(inner, rects[i]) {
				t.Errorf("%+v lies at %v in the parcel %v", p, rects[i], parcels[i])
			}
			if !p.FillX && rects[i].W > p.W || !p.FillY && rects[i].H > p.H {
				t.Errorf("%+v is as great as %v", p, rects[i])
			}
			if p.FillX && rects[i].W != inner.W || p.FillY && rects[i].H != inner.H || p.FillX && p.FillY && rects[i] != inner {
				t.Errorf("%+v does not fill the parcel %v, but is %v", p, parcels[i], rects[i])
			}
		}
	})
}

func TestPromise19ItemsHaveRoomAsFarAsTheyAsk(t *testing.T) {
	asksForNothing := func(p impl.Pack) bool { return p.W == 0 || p.H == 0 }
	fit, unfit := 0, 0
	eachPacking(func(list []impl.Pack, w, h int) {
		needW, needH := impl.PackRequest(list)
		enough := w >= needW && h >= needH
		got := impl.PackFits(list, w, h)
		if enough && !got {
			t.Errorf("PackFits(%+v, %d, %d) = false, but %d, %d is needed", list, w, h, needW, needH)
		}
		if slices.ContainsFunc(list, asksForNothing) {
			return
		}
		if !enough && got {
			t.Errorf("PackFits(%+v, %d, %d) = true, but %d, %d is needed", list, w, h, needW, needH)
		}
		if got {
			fit++
		} else {
			unfit++
		}
	})
	if fit == 0 || unfit == 0 {
		t.Errorf("%d lists fit, and %d do not", fit, unfit)
	}
	// Only those that ask for something need the room around them.
	nothing := []impl.Pack{{PadX: 10, PadY: 10}, {Side: impl.SdLeft, PadX: 3}}
	if w, h := impl.PackRequest(nothing); w != 20 || h != 20 || !impl.PackFits(nothing, 0, 0) {
		t.Errorf("PackRequest(%+v) = %d, %d", nothing, w, h)
	}
}
