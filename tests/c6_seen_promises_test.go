package tests

import (
	"slices"
	"testing"

	"loop.example/widgetroom/impl"
)

func TestPromise44WhatIsSeenLiesInAllAbove(t *testing.T) {
	cut, outside := 0, 0
	eachSeen(func(tr impl.Tree, w, h int, rects []impl.Rect) {
		for i, r := range rects {
			part, ok := impl.SeenPart(tr, w, h, i)
			if !ok {
				continue
			}
			way := impl.WayUp(tr, i)
			if !hasPoints(part) || !liesIn(r, part) || len(way) == 0 {
				t.Errorf("SeenPart(%+v, %d, %d, %d) = %v of %v, and WayUp = %v", tr, w, h, i, part, r, way)
			}
			for _, n := range way {
				if !liesIn(rects[n], part) {
					t.Errorf("SeenPart(%+v, %d, %d, %d) = %v, which does not lie in %d, %v", tr, w, h, i, part, n, rects[n])
				}
			}
			if part != r {
				cut++
			}
			if i > 0 && !liesIn(rects[tr.Nodes[i].Parent], r) {
				outside++
			}
		}
	})
	if cut == 0 || outside == 0 {
		t.Errorf("%d nodes are seen in part, and %d lie outside of their parents", cut, outside)
	}
}

func TestPromise45HitsAreSeen(t *testing.T) {
	missed, deep, onOthers := 0, 0, 0
	eachSpot(func(tr impl.Tree, w, h int, rects []impl.Rect, at spot) {
		hit := impl.HitNode(tr, w, h, at.x, at.y)
		if hit == -1 {
			missed++
			if hasSpot(rects[0], at) {
				t.Errorf("HitNode(%+v, %d, %d, %v) = -1, but the root has it", tr, w, h, at)
			}
			return
		}
		if part, ok := impl.SeenPart(tr, w, h, hit); !ok || !hasSpot(part, at) {
			t.Errorf("HitNode(%+v, %d, %d, %v) = %d, of which %v, %v is seen", tr, w, h, at, hit, part, ok)
		}
		for _, k := range kidsIn(tr, hit) {
			if hasSpot(rects[k], at) {
				t.Errorf("HitNode(%+v, %d, %d, %v) = %d, but its kid %d has it", tr, w, h, at, hit, k)
			}
		}
		if hit == 0 {
			return
		}
		deep++
		for k := tr.Nodes[hit].Parent + 1; k < hit; k++ {
			if tr.Nodes[k].Parent == tr.Nodes[hit].Parent && hasSpot(rects[k], at) {
				onOthers++
			}
		}
	})
	if missed == 0 || deep == 0 || onOthers == 0 {
		t.Errorf("%d points miss, %d hit below the root, and %d of these what lies on others", missed, deep, onOthers)
	}
}

func TestPromise46WaysGoUp(t *testing.T) {
	longest := 0
	for _, tr := range append(seenEdgeTrees(), mixedTrees()...) {
		for i := range tr.Nodes {
			way := impl.WayUp(tr, i)
			if len(way) == 0 || way[0] != i || way[len(way)-1] != 0 {
				t.Fatalf("WayUp(%+v, %d) = %v", tr, i, way)
			}
			for n, from := range way[:len(way)-1] {
				if way[n+1] != tr.Nodes[from].Parent {
					t.Errorf("WayUp(%+v, %d) = %v, but the parent of %d is %d", tr, i, way, from, tr.Nodes[from].Parent)
				}
			}
			longest = max(longest, len(way))
		}
	}
	if longest != impl.MaxNodes {
		t.Errorf("the longest way has %d nodes", longest)
	}
}

func TestPromise47HiddenNodesHideAllBelow(t *testing.T) {
	withKids, withPoints := 0, 0
	eachSeen(func(tr impl.Tree, w, h int, rects []impl.Rect) {
		hidden := impl.HiddenNodes(tr, w, h)
		for i, r := range rects {
			part, ok := impl.SeenPart(tr, w, h, i)
			if slices.Contains(hidden, i) == ok || !ok && part != none {
				t.Errorf("HiddenNodes(%+v, %d, %d) = %v, but SeenPart of %d = %v, %v", tr, w, h, hidden, i, part, ok)
			}
			if ok {
				continue
			}
			for _, k := range kidsIn(tr, i) {
				withKids++
				if !slices.Contains(hidden, k) {
					t.Errorf("HiddenNodes(%+v, %d, %d) = %v, but not %d, a kid of %d", tr, w, h, hidden, k, i)
				}
			}
			if hasPoints(r) {
				withPoints++
			}
		}
	})
	if withKids == 0 || withPoints == 0 {
		t.Errorf("%d kids are hidden by their parents, and %d nodes with points", withKids, withPoints)
	}
}

func TestPromise47NoPointHitsHiddenNodes(t *testing.T) {
	tries := 0
	eachSpot(func(tr impl.Tree, w, h int, rects []impl.Rect, at spot) {
		hit := impl.HitNode(tr, w, h, at.x, at.y)
		hidden := impl.HiddenNodes(tr, w, h)
		if slices.Contains(hidden, hit) {
			t.Errorf("HitNode(%+v, %d, %d, %v) = %d, but HiddenNodes = %v", tr, w, h, at, hit, hidden)
		}
		if slices.ContainsFunc(hidden, func(i int) bool { return hasSpot(rects[i], at) }) {
			tries++
		}
	})
	if tries == 0 {
		t.Error("no hidden node has a point that is tried")
	}
}

func TestPromise48ClippedNodesAreNotAllSeen(t *testing.T) {
	full, packed, clippedAbove, bare := 0, 0, 0, 0
	eachSeen(func(tr impl.Tree, w, h int, rects []impl.Rect) {
		clipped := impl.ClippedNodes(tr, w, h)
		isClipped := func(n int) bool { return slices.Contains(clipped, n) }
		for i, r := range rects {
			part, ok := impl.SeenPart(tr, w, h, i)
			anyClipped := slices.ContainsFunc(impl.WayUp(tr, i), isClipped)
			if ok && !anyClipped {
				full++
				if part != r {
					t.Errorf("SeenPart(%+v, %d, %d, %d) = %v of %v, but ClippedNodes = %v", tr, w, h, i, part, r, clipped)
				}
			}
			if anyClipped && !isClipped(i) {
				clippedAbove++
			}
			if i > 0 && tr.Nodes[tr.Nodes[i].Parent].Kind == impl.KdPack {
				packed++
				if isClipped(i) {
					t.Errorf("ClippedNodes(%+v, %d, %d) = %v, but %d is packed", tr, w, h, clipped, i)
				}
			}
			if isClipped(i) && !hasPoints(r) {
				bare++
			}
		}
	})
	if full == 0 || packed == 0 || clippedAbove == 0 || bare == 0 {
		t.Errorf("%d nodes are seen in full, %d packed, %d in a clipped one, and %d clipped without points", full, packed, clippedAbove, bare)
	}
}

// wantPairs checks that a list is pairs of kids of a node that overlap, in order.
func wantPairs(t *testing.T, tr impl.Tree, rects []impl.Rect, i int, list []int) {
	t.Helper()
	if len(list)%2 != 0 {
		t.Fatalf("OverlapsIn %d of %+v = %v, which are no pairs", i, tr, list)
	}
	for n := 0; n < len(list); n += 2 {
		a, b := list[n], list[n+1]
		if a >= b || tr.Nodes[a].Parent != i || tr.Nodes[b].Parent != i || !overlap(rects[a], rects[b]) {
			t.Errorf("OverlapsIn %d of %+v = %v, with %v and %v", i, tr, list, rects[a], rects[b])
		}
		if n > 0 && slices.Compare(list[n-2:n], list[n:n+2]) >= 0 {
			t.Errorf("OverlapsIn %d of %+v = %v, which has no order", i, tr, list)
		}
	}
}

func TestPromise49PackedKidsDoNotOverlap(t *testing.T) {
	packed, inGrid, placed := 0, 0, 0
	eachSeen(func(tr impl.Tree, w, h int, rects []impl.Rect) {
		for i, n := range tr.Nodes {
			list := impl.OverlapsIn(tr, w, h, i)
			switch n.Kind {
			case impl.KdPack:
				if len(list) != 0 {
					t.Errorf("OverlapsIn(%+v, %d, %d, %d) = %v, but it packs its kids", tr, w, h, i, list)
				}
				if len(kidsIn(tr, i)) > 1 {
					packed++
				}
			case impl.KdGrid:
				wantPairs(t, tr, rects, i, list)
				inGrid += len(list)
			case impl.KdPlace:
				wantPairs(t, tr, rects, i, list)
				placed += len(list)
			}
		}
	})
	if packed == 0 || inGrid == 0 || placed == 0 {
		t.Errorf("%d nodes pack kids, and %d and %d overlap in grids and where they are placed", packed, inGrid, placed)
	}
}

// roomySizes returns the least size in which a tree has what it asks for, and greater ones, as far as there are any.
func roomySizes(tr impl.Tree) []size {
	need := wantAsked(tr, 0)
	var list []size
	for _, more := range []size{{0, 0}, {1, 0}, {0, 1}, {17, 33}, {400 - need.w, 400 - need.h}} {
		s := size{need.w + more.w, need.h + more.h}
		if more.w >= 0 && more.h >= 0 && s.w <= 400 && s.h <= 400 {
			list = append(list, s)
		}
	}
	return list
}

func TestPromise50InEnoughRoomNoKidOfTheRootIsCut(t *testing.T) {
	packed, inGrid, deeper := 0, 0, 0
	for _, tr := range append(seenEdgeTrees(), mixedTrees()...) {
		if isBarrier(tr.Nodes[0]) {
			continue
		}
		for _, s := range roomySizes(tr) {
			cut := impl.CutNodes(tr, s.w, s.h)
			for _, k := range kidsIn(tr, 0) {
				if slices.Contains(cut, k) {
					t.Errorf("CutNodes(%+v, %v) = %v, but %d is a kid of the root", tr, s, cut, k)
				}
				if tr.Nodes[0].Kind == impl.KdPack {
					packed++
				} else {
					inGrid++
				}
			}
			deeper += len(cut)
		}
	}
	if packed == 0 || inGrid == 0 || deeper == 0 {
		t.Errorf("%d kids are packed, %d in a grid, and %d nodes are cut below", packed, inGrid, deeper)
	}
}

func TestPromise50WithLessRoomKidsOfTheRootAreCut(t *testing.T) {
	line := []impl.Line{{Weight: 1}}
	for _, tr := range []impl.Tree{tree(root, leaf(0, 9, 8, item(impl.SdTop, 0, 0))), tree(gridded(root, line, line), celled(0, 9, 8, alone(0, 0, 0, 0)))} {
		for _, c := range []struct {
			in   size
			want []int
		}{{size{9, 8}, nil}, {size{400, 400}, nil}, {size{8, 400}, []int{1}}, {size{400, 7}, []int{1}}, {size{0, 0}, []int{1}}} {
			if got := impl.CutNodes(tr, c.in.w, c.in.h); !slices.Equal(got, c.want) {
				t.Errorf("CutNodes(%+v, %v) = %v, not %v", tr, c.in, got, c.want)
			}
		}
	}
}
