package tests

import (
	"testing"

	"loop.example/widgetroom/impl"
)

func TestPromise30ItemsCanLieAnywhere(t *testing.T) {
	for _, p := range goodPlaces() {
		for p.Anchor = range 9 {
			if !impl.ValidPlace(p) {
				t.Errorf("ValidPlace(%+v) = false", p)
			}
		}
	}
}

func TestPromise31PlacesAreToldByAnchors(t *testing.T) {
	great := 0
	eachPlacing(func(p impl.Place, w, h int) {
		p.Anchor = 0
		first := impl.PlaceRect(p, w, h)
		for p.Anchor = range 9 {
			if r := impl.PlaceRect(p, w, h); r.W != first.W || r.H != first.H {
				t.Errorf("PlaceRect(%+v, %d, %d) = %v, but %v at the anchor 0", p, w, h, r, first)
			}
		}
		p.Anchor = 8
		last := impl.PlaceRect(p, w, h)
		if last.X+last.W != first.X || last.Y+last.H != first.Y {
			t.Errorf("PlaceRect(%+v, %d, %d) = %v, but %v at the anchor 0", p, w, h, last, first)
		}
		if last.W > 0 && last.H > 0 {
			great++
		}
	})
	if great == 0 {
		t.Error("no item has points")
	}
}

func TestPromise32InsideIsInside(t *testing.T) {
	inside, outside := 0, 0
	eachPlacing(func(p impl.Place, w, h int) {
		got, r := impl.PlaceInside(p, w, h), impl.PlaceRect(p, w, h)
		if got != impl.InsideRect(rect(0, 0, w, h), r) {
			t.Errorf("PlaceInside(%+v, %d, %d) = %v, but its rectangle is %v", p, w, h, got, r)
		}
		if got {
			inside++
		} else {
			outside++
		}
	})
	if inside == 0 || outside == 0 {
		t.Errorf("%d items lie inside, and %d outside", inside, outside)
	}
}

func TestPromise33TheLeastSizeIsTheLeast(t *testing.T) {
	some, never := 0, 0
	for _, p := range goodPlaces() {
		least := impl.LeastInside(p)
		first := -1
		for n := 0; n <= 400 && first < 0; n++ {
			if impl.PlaceInside(p, n, n) {
				first = n
			}
		}
		if least != first {
			t.Errorf("LeastInside(%+v) = %d, but it is first inside with %d", p, least, first)
		}
		if least > 0 {
			some++
		}
		if least < 0 {
			never++
		}
	}
	if some == 0 || never == 0 {
		t.Errorf("%d items have a least size, and %d none", some, never)
	}
}

func TestPromise34ItemsGoWhereTheyAreTold(t *testing.T) {
	moved := 0
	eachPlacing(func(p impl.Place, w, h int) {
		before := impl.PlaceRect(p, w, h)
		for _, at := range []spot{{0, 0}, {-300, -299}, {300, 299}, {-17, 23}} {
			q, ok := impl.PlaceAt(p, w, h, at.x, at.y)
			if !ok {
				continue
			}
			moved++
			if r := impl.PlaceRect(q, w, h); r != rect(at.x, at.y, before.W, before.H) {
				t.Errorf("PlaceRect of PlaceAt(%+v, %d, %d, %d, %d) = %v, but it was %v", p, w, h, at.x, at.y, r, before)
			}
		}
		// An item that is at a place that can be told can go there.
		q, ok := impl.PlaceAt(p, w, h, before.X, before.Y)
		if toldX, toldY := max(before.X, -before.X) <= 300, max(before.Y, -before.Y) <= 300; toldX && toldY && (!ok || q != p) {
			t.Errorf("PlaceAt(%+v, %d, %d, ..) of its own place = %+v, %v", p, w, h, q, ok)
		}
	})
	if moved == 0 {
		t.Error("no item goes anywhere")
	}
}

func TestPromise35FixedItemsLieWhereTheyLay(t *testing.T) {
	loose := 0
	eachPlacing(func(p impl.Place, w, h int) {
		f, ok := impl.FixPlace(p, w, h)
		if !ok {
			return
		}
		r := impl.PlaceRect(f, w, h)
		if before := impl.PlaceRect(p, w, h); r != before {
			t.Errorf("PlaceRect of FixPlace(%+v, %d, %d) = %v, but it was %v", p, w, h, r, before)
		}
		for _, s := range placeSizes() {
			if other := impl.PlaceRect(f, s.w, s.h); other.W != r.W || other.H != r.H {
				t.Errorf("PlaceRect of FixPlace(%+v, %d, %d) = %v in %v, but %v in its own", p, w, h, other, s, r)
			}
		}
		if f != p {
			loose++
		}
	})
	if loose == 0 {
		t.Error("no item is fixed")
	}
}
