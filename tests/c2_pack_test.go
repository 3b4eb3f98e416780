package tests

import (
	"slices"
	"testing"

	"loop.example/widgetroom/impl"
)

func TestPackConstants(t *testing.T) {
	if impl.MaxWish != 30 || impl.MaxPacks != 7 {
		t.Error("the limits are not those of the document")
	}
}

func TestValidPack(t *testing.T) {
	for _, p := range goodItems() {
		if !impl.ValidPack(p) {
			t.Errorf("ValidPack(%+v) = false", p)
		}
	}
	for _, p := range badItems() {
		if impl.ValidPack(p) {
			t.Errorf("ValidPack(%+v) = true", p)
		}
	}
}

func TestPackRequestExamples(t *testing.T) {
	padded := impl.Pack{Side: impl.SdLeft, W: 5, H: 6, PadX: 2, PadY: 3}
	full := impl.Pack{Side: impl.SdTop, W: 30, H: 30, PadX: 10, PadY: 10}
	for _, c := range []struct {
		list []impl.Pack
		w, h int
	}{
		{nil, 0, 0},
		{[]impl.Pack{}, 0, 0},
		{[]impl.Pack{{}}, 0, 0},
		{[]impl.Pack{{PadX: 1}}, 2, 0},
		{[]impl.Pack{{PadY: 1}}, 0, 2},
		{[]impl.Pack{padded}, 9, 12},
		{[]impl.Pack{padded, padded}, 18, 12},
		{[]impl.Pack{item(impl.SdTop, 10, 4), item(impl.SdLeft, 6, 5), item(impl.SdBottom, 3, 2)}, 10, 9},
		{[]impl.Pack{item(impl.SdRight, 4, 4), item(impl.SdBottom, 5, 3), item(impl.SdRight, 2, 2), item(impl.SdTop, 1, 1)}, 9, 5},
		{[]impl.Pack{item(impl.SdTop, 1, 2), item(impl.SdBottom, 3, 4), item(impl.SdTop, 2, 8)}, 3, 14},
		{[]impl.Pack{item(impl.SdLeft, 1, 2), item(impl.SdRight, 4, 3), item(impl.SdLeft, 8, 1)}, 13, 3},
		{[]impl.Pack{item(impl.SdTop, 1, 1), item(impl.SdLeft, 1, 9), item(impl.SdTop, 1, 1), item(impl.SdLeft, 1, 1)}, 2, 10},
		{slices.Repeat([]impl.Pack{full}, 7), 50, 350},
	} {
		if w, h := impl.PackRequest(c.list); w != c.w || h != c.h {
			t.Errorf("PackRequest(%+v) = %d, %d", c.list, w, h)
		}
	}
}

func TestPackRequest(t *testing.T) {
	for _, list := range goodLists() {
		wantW, wantH := wantRequest(list)
		if w, h := impl.PackRequest(list); w != wantW || h != wantH {
			t.Errorf("PackRequest(%+v) = %d, %d, not %d, %d", list, w, h, wantW, wantH)
		}
	}
}

func TestExpandShareExamples(t *testing.T) {
	top, left := growing(impl.SdTop, 1, 4), growing(impl.SdLeft, 3, 1)
	for _, c := range []struct {
		list []impl.Pack
		room int
		down bool
		want int
	}{
		{[]impl.Pack{growing(impl.SdTop, 0, 0)}, 0, true, 0},
		{[]impl.Pack{growing(impl.SdTop, 9, 0)}, 400, true, 400},
		{[]impl.Pack{growing(impl.SdRight, 0, 9)}, 400, false, 400},
		{[]impl.Pack{top}, 3, true, 0},
		{[]impl.Pack{top}, 4, true, 0},
		{[]impl.Pack{top}, 5, true, 1},
		{[]impl.Pack{top, top}, 9, true, 0},
		{[]impl.Pack{top, top}, 10, true, 1},
		{[]impl.Pack{top, top, top}, 22, true, 3},
		{[]impl.Pack{top, item(impl.SdBottom, 1, 4), top}, 22, true, 5},
		// Beyond the room nothing is shared, however many expand.
		{[]impl.Pack{top, item(impl.SdTop, 1, 30)}, 20, true, 0},
		{[]impl.Pack{top, item(impl.SdTop, 1, 30), item(impl.SdLeft, 1, 1)}, 20, true, 0},
		{[]impl.Pack{top, item(impl.SdLeft, 1, 10)}, 12, true, 0},
		{[]impl.Pack{top, item(impl.SdLeft, 1, 10)}, 15, true, 1},
		{[]impl.Pack{top, top, item(impl.SdLeft, 4, 10)}, 30, true, 6},
		// What lies across counts only with those that expand ahead of it.
		{[]impl.Pack{growing(impl.SdTop, 1, 1), item(impl.SdLeft, 1, 20), growing(impl.SdTop, 1, 1), growing(impl.SdTop, 1, 1)}, 24, true, 3},
		{[]impl.Pack{left, item(impl.SdRight, 5, 1), growing(impl.SdLeft, 2, 9), item(impl.SdTop, 7, 7)}, 30, false, 6},
		{[]impl.Pack{left, growing(impl.SdTop, 7, 30), growing(impl.SdBottom, 6, 30)}, 30, false, 20},
		// The room around is needed, too, on both sides.
		{[]impl.Pack{{Side: impl.SdBottom, H: 5, PadY: 2, PadX: 9, Expand: true}}, 20, true, 11},
		{[]impl.Pack{{Side: impl.SdLeft, W: 5, PadX: 3, PadY: 9, Expand: true}, {Side: impl.SdTop, W: 1, PadX: 4}}, 21, false, 1},
		{slices.Repeat([]impl.Pack{growing(impl.SdRight, 1, 1)}, 7), 400, false, 56},
	} {
		if got := impl.ExpandShare(c.list, c.room, c.down); got != c.want {
			t.Errorf("ExpandShare(%+v, %d, %v) = %d, not %d", c.list, c.room, c.down, got, c.want)
		}
	}
}

func TestExpandShare(t *testing.T) {
	rooms := []int{0, 1, 2, 5, 9, 10, 17, 30, 61, 100, 199, 400}
	for _, list := range goodLists() {
		for _, down := range []bool{false, true} {
			for _, room := range rooms {
				want := -1
				if len(list) > 0 && list[0].Expand && isDown(list[0]) == down {
					want = wantShare(list, room, down)
				}
				if got := impl.ExpandShare(list, room, down); got != want {
					t.Errorf("ExpandShare(%+v, %d, %v) = %d, not %d", list, room, down, got, want)
				}
			}
		}
	}
}

func TestExpandShareInvalid(t *testing.T) {
	for side := range 4 {
		down := side == impl.SdTop || side == impl.SdBottom
		list := []impl.Pack{growing(side, 1, 2), growing(side, 3, 1)}
		for _, room := range beyond(0, 400) {
			if got := impl.ExpandShare(list, room, down); got != -1 {
				t.Errorf("ExpandShare(%+v, %d, %v) = %d", list, room, down, got)
			}
		}
		if got := impl.ExpandShare(list, 20, !down); got != -1 {
			t.Errorf("ExpandShare(%+v, 20, %v) = %d", list, !down, got)
		}
		list[0].Expand = false
		if got := impl.ExpandShare(list, 20, down); got != -1 {
			t.Errorf("ExpandShare(%+v, 20, %v) = %d", list, down, got)
		}
	}
	for _, list := range append(badLists(), nil, []impl.Pack{}) {
		if down, across := impl.ExpandShare(list, 20, true), impl.ExpandShare(list, 20, false); down != -1 || across != -1 {
			t.Errorf("ExpandShare(%+v, 20) = %d, %d", list, down, across)
		}
	}
}

// packing is a list of items in a size, and what it gives.
type packing struct {
	list    []impl.Pack
	w, h    int
	parcels []impl.Rect
	left    impl.Rect
	rects   []impl.Rect
	fits    bool
}

// packings returns lists that are packed, written out.
func packings() []packing {
	mixed := []impl.Pack{item(impl.SdTop, 10, 4), item(impl.SdLeft, 6, 5), item(impl.SdBottom, 3, 2)}
	round := []impl.Pack{item(impl.SdRight, 4, 4), item(impl.SdBottom, 5, 3), item(impl.SdRight, 2, 2), item(impl.SdTop, 1, 1)}
	three := slices.Repeat([]impl.Pack{growing(impl.SdBottom, 1, 1)}, 3)
	turning := []impl.Pack{growing(impl.SdLeft, 2, 3), growing(impl.SdTop, 4, 1), growing(impl.SdLeft, 1, 1), item(impl.SdBottom, 3, 2)}
	empty := []impl.Pack{{PadX: 10, PadY: 10, Side: impl.SdRight, Anchor: 8}}
	filled := []impl.Pack{{Side: impl.SdLeft, W: 3, H: 4, FillX: true, PadX: 1, PadY: 2, Anchor: 8, Expand: true}, {Side: impl.SdTop, W: 3, H: 4, FillY: true, PadX: 2, PadY: 1, Anchor: 3}}
	return []packing{
		{nil, 0, 0, nil, none, nil, true},
		{nil, 7, 9, nil, rect(0, 0, 7, 9), nil, true},
		{[]impl.Pack{{}}, 5, 6, []impl.Rect{rect(0, 0, 5, 0)}, rect(0, 0, 5, 6), []impl.Rect{rect(0, 0, 0, 0)}, true},
		{mixed, 20, 15,
			[]impl.Rect{rect(0, 0, 20, 4), rect(0, 4, 6, 11), rect(6, 13, 14, 2)}, rect(6, 4, 14, 9),
			[]impl.Rect{rect(5, 0, 10, 4), rect(0, 7, 6, 5), rect(11, 13, 3, 2)}, true},
		{mixed, 5, 3,
			[]impl.Rect{rect(0, 0, 5, 3), rect(0, 3, 5, 0), rect(5, 3, 0, 0)}, rect(5, 3, 0, 0),
			[]impl.Rect{rect(0, 0, 5, 3), rect(0, 3, 5, 0), rect(5, 3, 0, 0)}, false},
		{round, 20, 10,
			[]impl.Rect{rect(16, 0, 4, 10), rect(0, 7, 16, 3), rect(14, 0, 2, 7), rect(0, 0, 14, 1)}, rect(0, 1, 14, 6),
			[]impl.Rect{rect(16, 3, 4, 4), rect(5, 7, 5, 3), rect(14, 2, 2, 2), rect(6, 0, 1, 1)}, true},
		{round, 9, 5,
			[]impl.Rect{rect(5, 0, 4, 5), rect(0, 2, 5, 3), rect(3, 0, 2, 2), rect(0, 0, 3, 1)}, rect(0, 1, 3, 1),
			[]impl.Rect{rect(5, 0, 4, 4), rect(0, 2, 5, 3), rect(3, 0, 2, 2), rect(1, 0, 1, 1)}, true},
		{three, 5, 10,
			[]impl.Rect{rect(0, 7, 5, 3), rect(0, 4, 5, 3), rect(0, 0, 5, 4)}, rect(0, 0, 5, 0),
			[]impl.Rect{rect(2, 8, 1, 1), rect(2, 5, 1, 1), rect(2, 1, 1, 1)}, true},
		// Of 18 across the last one needs 3 and two share the rest, so the first one has 2 and 6; the second one all of the height but 2; and the third one has 1 and 6 of 10.
		{turning, 18, 12,
			[]impl.Rect{rect(0, 0, 8, 12), rect(8, 0, 10, 10), rect(8, 10, 7, 2), rect(15, 10, 3, 2)}, rect(15, 10, 3, 0),
			[]impl.Rect{rect(3, 4, 2, 3), rect(11, 4, 4, 1), rect(11, 10, 1, 1), rect(15, 10, 3, 2)}, true},
		{empty, 0, 0, []impl.Rect{none}, none, []impl.Rect{none}, true},
		{empty, 30, 15, []impl.Rect{rect(10, 0, 20, 15)}, rect(0, 0, 10, 15), []impl.Rect{rect(20, 7, 0, 0)}, true},
		{filled, 20, 12,
			[]impl.Rect{rect(0, 0, 13, 12), rect(13, 0, 7, 6)}, rect(13, 6, 7, 6),
			[]impl.Rect{rect(1, 6, 11, 4), rect(15, 1, 3, 4)}, true},
	}
}

func TestPackingExamples(t *testing.T) {
	for _, c := range packings() {
		if got := impl.PackParcels(c.list, c.w, c.h); !slices.Equal(got, c.parcels) {
			t.Errorf("PackParcels(%+v, %d, %d) = %v, not %v", c.list, c.w, c.h, got, c.parcels)
		}
		if got := impl.PackLeft(c.list, c.w, c.h); got != c.left {
			t.Errorf("PackLeft(%+v, %d, %d) = %v, not %v", c.list, c.w, c.h, got, c.left)
		}
		if got := impl.PackRects(c.list, c.w, c.h); !slices.Equal(got, c.rects) {
			t.Errorf("PackRects(%+v, %d, %d) = %v, not %v", c.list, c.w, c.h, got, c.rects)
		}
		if got := impl.PackFits(c.list, c.w, c.h); got != c.fits {
			t.Errorf("PackFits(%+v, %d, %d) = %v", c.list, c.w, c.h, got)
		}
	}
}

func TestPacking(t *testing.T) {
	fit, wrong := 0, 0
	eachPacking(func(list []impl.Pack, w, h int) {
		parcels, left := wantParcels(list, w, h)
		fits := true
		var rects []impl.Rect
		for i, p := range list {
			r := wantRect(p, parcels[i])
			rects = append(rects, r)
			fits = fits && r.W >= p.W && r.H >= p.H
		}
		if fits {
			fit++
		}
		gotParcels, gotLeft, gotRects, gotFits := impl.PackParcels(list, w, h), impl.PackLeft(list, w, h), impl.PackRects(list, w, h), impl.PackFits(list, w, h)
		if wrong < 5 && (!slices.Equal(gotParcels, parcels) || gotLeft != left || !slices.Equal(gotRects, rects) || gotFits != fits) {
			wrong++
			t.Errorf("%+v in %d, %d: parcels %v, left %v, rects %v, fits %v", list, w, h, gotParcels, gotLeft, gotRects, gotFits)
		}
	})
	if fit == 0 {
		t.Error("no items fit")
	}
}

// wantNothing checks that items are not packed.
func wantNothing(t *testing.T, list []impl.Pack, w, h int) {
	t.Helper()
	parcels, left, rects := impl.PackParcels(list, w, h), impl.PackLeft(list, w, h), impl.PackRects(list, w, h)
	if len(parcels) != 0 || left != none || len(rects) != 0 || impl.PackFits(list, w, h) {
		t.Errorf("%+v in %d, %d: parcels %v, left %v, rects %v", list, w, h, parcels, left, rects)
	}
}

func TestPackingInvalidItems(t *testing.T) {
	for _, list := range badLists() {
		if w, h := impl.PackRequest(list); w != -1 || h != -1 {
			t.Errorf("PackRequest(%+v) = %d, %d", list, w, h)
		}
		wantNothing(t, list, 0, 0)
		wantNothing(t, list, 100, 90)
		wantNothing(t, list, 400, 400)
	}
}

func TestPackingInvalidSizes(t *testing.T) {
	lists := [][]impl.Pack{nil, {{}}, {growing(impl.SdTop, 1, 1)}, {item(impl.SdLeft, 0, 0), growing(impl.SdRight, 2, 3)}}
	for _, list := range lists {
		for _, n := range beyond(0, 400) {
			wantNothing(t, list, n, 10)
			wantNothing(t, list, 10, n)
			wantNothing(t, list, n, n)
		}
	}
}

func TestPackingAtTheLimits(t *testing.T) {
	full := impl.Pack{Side: impl.SdRight, W: 30, H: 30, PadX: 10, PadY: 10, Anchor: 8}
	list := slices.Repeat([]impl.Pack{full}, impl.MaxPacks)
	if !impl.PackFits(list, 350, 50) || impl.PackFits(list, 349, 50) || impl.PackFits(list, 350, 49) || !impl.PackFits(list, 400, 400) {
		t.Error("PackFits of as many and as great items as can be")
	}
	if got := impl.PackRects(list, 400, 400)[6]; got != rect(60, 360, 30, 30) {
		t.Errorf("the last one lies at %v", got)
	}
	list[6].Expand = true
	if got := impl.PackParcels(list, 400, 400)[6]; got != rect(0, 0, 100, 400) || impl.PackLeft(list, 400, 400) != rect(0, 0, 0, 400) {
		t.Errorf("the last one, which expands, has the parcel %v", got)
	}
	if impl.PackParcels(append(list, impl.Pack{}), 400, 400) != nil || impl.PackFits(append(list, impl.Pack{}), 400, 400) {
		t.Error("one item more than can be is packed")
	}
}

// dirty is a rectangle that no result has.
var dirty = rect(-77, -78, 79, 80)

func TestPackingSharesNoMemory(t *testing.T) {
	for _, whole := range mixedLists() {
		spare := append(slices.Clone(whole), impl.Pack{W: -1}, impl.Pack{W: 31}, growing(9, 9, 9))
		before := slices.Clone(spare)
		list := spare[:len(whole)]
		down := isDown(list[0])
		parcels, rects := impl.PackParcels(list, 90, 80), impl.PackRects(list, 90, 80)
		wantParcels, wantRects := slices.Clone(parcels), slices.Clone(rects)
		for i := range parcels {
			parcels[i], rects[i] = dirty, dirty
		}
		_, _ = append(parcels, dirty), append(rects, dirty)
		if !slices.Equal(impl.PackParcels(list, 90, 80), wantParcels) || !slices.Equal(impl.PackRects(list, 90, 80), wantRects) {
			t.Errorf("results of %+v share memory with the next ones", list)
		}
		impl.PackRequest(list)
		impl.ExpandShare(list, 90, down)
		impl.PackLeft(list, 90, 80)
		impl.PackFits(list, 90, 80)
		if !slices.Equal(spare, before) {
			t.Errorf("%+v has become %+v", before, spare)
		}
	}
}
