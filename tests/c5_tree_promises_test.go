package tests

import (
	"slices"
	"testing"

	"loop.example/widgetroom/impl"
)

func TestPromise36TreesCanBeCut(t *testing.T) {
	for _, tr := range goodTrees() {
		for many := len(tr.Nodes); many >= 1; many-- {
			if fewer := tree(tr.Nodes[:many]...); !impl.ValidTree(fewer) {
				t.Errorf("ValidTree(%+v) = false", fewer)
			}
		}
		if impl.ValidTree(tree(tr.Nodes[:0]...)) {
			t.Error("a tree is valid without its root")
		}
	}
}

func TestPromise37NodesThatKeepTheirSizeAskForIt(t *testing.T) {
	keep, pack := 0, 0
	for _, tr := range goodTrees() {
		for i, n := range tr.Nodes {
			w, h := impl.RequestOf(tr, i)
			if n.Keep && (w != n.W || h != n.H) {
				t.Errorf("RequestOf(%+v, %d) = %d, %d, but it keeps %d, %d", tr, i, w, h, n.W, n.H)
			}
			if len(kidsIn(tr, i)) == 0 {
				continue
			}
			if n.Keep {
				keep++
			}
			if n.Keep || n.Kind != impl.KdPack {
				continue
			}
			pack++
			for _, k := range kidsIn(tr, i) {
				if kidW, kidH := impl.RequestOf(tr, k); kidW > w || kidH > h {
					t.Errorf("RequestOf(%+v, %d) = %d, %d, but its kid %d asks for %d, %d", tr, i, w, h, k, kidW, kidH)
				}
			}
		}
	}
	if keep == 0 || pack == 0 {
		t.Errorf("%d nodes with kids keep their size, and %d pack them", keep, pack)
	}
}

func TestPromise38LayoutsBeginWithTheRoot(t *testing.T) {
	eachLayout(func(tr impl.Tree, w, h int) {
		if rects := impl.LayoutTree(tr, w, h); len(rects) != len(tr.Nodes) || rects[0] != rect(0, 0, w, h) {
			t.Errorf("LayoutTree(%+v, %d, %d) = %v", tr, w, h, rects)
		}
	})
}

func TestPromise39PackedKidsLieInTheirParents(t *testing.T) {
	great, bare := 0, 0
	eachLayout(func(tr impl.Tree, w, h int) {
		rects := impl.LayoutTree(tr, w, h)
		if len(rects) != len(tr.Nodes) {
			t.Fatalf("LayoutTree(%+v, %d, %d) = %v", tr, w, h, rects)
		}
		for i := 1; i < len(rects); i++ {
			parent := tr.Nodes[i].Parent
			if tr.Nodes[parent].Kind != impl.KdPack {
				continue
			}
			if !liesIn(rects[parent], rects[i]) {
				t.Errorf("LayoutTree(%+v, %d, %d) = %v, and %d does not lie in %d", tr, w, h, rects, i, parent)
			}
			if rects[parent].W > 400 || rects[parent].H > 400 {
				great++
			}
			if impl.AreaOf(rects[parent]) == 0 {
				bare++
			}
		}
	})
	if great == 0 || bare == 0 {
		t.Errorf("%d parents are beyond the limits, and %d have no points", great, bare)
	}
}

func TestPromise40AskingIsRemembered(t *testing.T) {
	eachAsking(goodTrees(), func(tr impl.Tree, i, w, h int) {
		n := tr.Nodes[i]
		if same, ok := impl.AskFor(tr, i, n.W, n.H); !ok || !sameTree(same, tr) {
			t.Errorf("AskFor(%+v, %d, %d, %d) = %+v, %v", tr, i, n.W, n.H, same, ok)
		}
		stays := changedTree(tr, i, func(n *impl.Node) { n.Keep = true })
		asked, ok := impl.AskFor(stays, i, w, h)
		if gotW, gotH := impl.RequestOf(asked, i); !ok || gotW != w || gotH != h {
			t.Errorf("RequestOf AskFor(%+v, %d, %d, %d) = %d, %d, %v", stays, i, w, h, gotW, gotH, ok)
		}
		back, ok := impl.AskFor(asked, i, n.W, n.H)
		if !ok || !sameTree(back, stays) {
			t.Errorf("AskFor(%+v, %d, %d, %d) = %+v, %v, but it was %+v", asked, i, n.W, n.H, back, ok, stays)
		}
	})
}

// isBarrier reports whether a node asks for the same whatever its kids ask for.
func isBarrier(n impl.Node) bool {
	return n.Keep || n.Kind == impl.KdPlace
}

func TestPromise41AskingGoesUp(t *testing.T) {
	alone, farther, stopped := 0, 0, 0
	eachAsking(goodTrees(), func(tr impl.Tree, i, w, h int) {
		touched, way := impl.TouchedBy(tr, i, w, h), impl.WayUp(tr, i)
		if len(touched) > len(way) {
			t.Fatalf("TouchedBy(%+v, %d, %d, %d) = %v, but WayUp is %v", tr, i, w, h, touched, way)
		}
		// Those further up have lesser indices.
		up := slices.Clone(touched)
		slices.Reverse(up)
		if !slices.Equal(up, way[:len(up)]) {
			t.Errorf("TouchedBy(%+v, %d, %d, %d) = %v, which is no beginning of WayUp, %v", tr, i, w, h, touched, way)
		}
		if len(up) == 0 {
			return
		}
		for _, n := range up[1:] {
			if isBarrier(tr.Nodes[n]) {
				t.Errorf("TouchedBy(%+v, %d, %d, %d) = %v, but %d keeps its size or places its kids", tr, i, w, h, touched, n)
			}
		}
		if len(up) == 1 {
			alone++
		} else {
			farther++
		}
		if len(up) < len(way) && isBarrier(tr.Nodes[way[len(up)]]) {
			stopped++
		}
	})
	if alone == 0 || farther == 0 || stopped == 0 {
		t.Errorf("%d times only the node is touched, %d times others are, and %d times one stops it", alone, farther, stopped)
	}
}

func TestPromise42WhatIsNotTouchedStays(t *testing.T) {
	untouched, moving := 0, 0
	eachAsking(goodTrees(), func(tr impl.Tree, i, w, h int) {
		touched := impl.TouchedBy(tr, i, w, h)
		for _, in := range []size{{0, 0}, {23, 31}, {400, 400}} {
			moved := impl.MovedBy(tr, i, w, h, in.w, in.h)
			if slices.Contains(moved, 0) || len(touched) == 0 && len(moved) > 0 {
				t.Errorf("MovedBy(%+v, %d, %d, %d, %v) = %v, and TouchedBy = %v", tr, i, w, h, in, moved, touched)
			}
			if len(moved) > 0 {
				moving++
			}
		}
		if len(touched) == 0 {
			untouched++
		}
	})
	if untouched == 0 || moving == 0 {
		t.Errorf("%d times nothing is touched, and %d times something is moved", untouched, moving)
	}
}

func TestPromise43InItsOwnSizeAllIsAsAsked(t *testing.T) {
	packed, inGrid, beyondSide := 0, 0, 0
	for _, tr := range goodTrees() {
		rects := impl.NaturalLayout(tr)
		w, h := impl.RequestOf(tr, 0)
		if w > 400 || h > 400 {
			beyondSide++
			continue
		}
		if len(rects) != len(tr.Nodes) || rects[0] != rect(0, 0, w, h) {
			t.Fatalf("NaturalLayout(%+v) = %v, but the root asks for %d, %d", tr, rects, w, h)
		}
		if tr.Nodes[0].Keep || tr.Nodes[0].Kind == impl.KdPlace {
			continue
		}
		for _, k := range kidsIn(tr, 0) {
			if kidW, kidH := impl.RequestOf(tr, k); rects[k].W < kidW || rects[k].H < kidH {
				t.Errorf("NaturalLayout(%+v) = %v, but %d asks for %d, %d", tr, rects, k, kidW, kidH)
			}
			if tr.Nodes[0].Kind == impl.KdPack {
				packed++
			} else {
				inGrid++
			}
		}
	}
	if packed == 0 || inGrid == 0 || beyondSide == 0 {
		t.Errorf("%d kids are packed, %d in a grid, and %d roots ask for too much", packed, inGrid, beyondSide)
	}
}
