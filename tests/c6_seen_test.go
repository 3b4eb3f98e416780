package tests

import (
	"slices"
	"testing"

	"loop.example/widgetroom/impl"
)

// view is a tree in a size: what is seen of its nodes, the zero value for those that are hidden, and which nodes are hidden, clipped and cut.
type view struct {
	tree                 impl.Tree
	w, h                 int
	seen                 []impl.Rect
	hidden, clipped, cut []int
}

// views returns trees of which more or less is seen, written out.
func views() []view {
	own := root
	own.W, own.H = 7, 12
	wishing := hung(0, fixedPlace(2, 2, 5, 4, 0))
	wishing.W, wishing.H = 5, 5
	wider := wishing
	wider.W, wider.H = 6, 4
	content := wishing
	content.W, content.H = 5, 4
	deep := rect(0, 0, 400, 400)
	return []view{
		{tree(own), 1, 1, []impl.Rect{rect(0, 0, 1, 1)}, nil, nil, nil},
		{tree(own), 400, 400, []impl.Rect{deep}, nil, nil, nil},
		// A root without points is hidden, whether across or down, and is never clipped or cut.
		{tree(own), 0, 12, []impl.Rect{none}, []int{0}, nil, nil},
		{tree(kept(own)), 7, 0, []impl.Rect{none}, []int{0}, nil, nil},
		{tree(board(own)), 0, 0, []impl.Rect{none}, []int{0}, nil, nil},
		{strayed(), 40, 30, []impl.Rect{rect(0, 0, 40, 30), rect(10, 10, 20, 10), rect(25, 10, 5, 3), none, none, none, rect(0, 0, 5, 5), none}, []int{3, 4, 5, 7}, []int{2, 3, 4, 5, 6}, nil},
		{strayed(), 10, 10, []impl.Rect{rect(0, 0, 10, 10), none, none, none, none, none, rect(0, 0, 5, 5), none}, []int{1, 2, 3, 4, 5, 7}, []int{1, 2, 3, 4, 5, 6}, nil},
		// What others lie on is seen all the same.
		{piled(), 30, 20, []impl.Rect{rect(0, 0, 30, 20), rect(2, 3, 10, 8), rect(2, 3, 10, 8), rect(12, 3, 4, 8), none, rect(3, 4, 3, 3), rect(11, 10, 5, 5), none}, []int{4, 7}, []int{7}, nil},
		{pointless(), 20, 15, []impl.Rect{rect(0, 0, 20, 15), none, none, none, none, none, none, none}, []int{1, 2, 3, 4, 5, 6, 7}, []int{2, 3, 5, 6}, nil},
		{giants(), 400, 400, []impl.Rect{deep, deep, deep, deep, deep, deep, rect(0, 0, 1, 1)}, nil, []int{1, 2, 3, 5}, nil},
		{giants(), 300, 0, []impl.Rect{none, none, none, none, none, none, none}, []int{0, 1, 2, 3, 4, 5, 6}, []int{1, 2, 3, 5, 6}, nil},
		{ladder(), 400, 400, slices.Repeat([]impl.Rect{deep}, 10), nil, []int{1, 2, 3, 4, 5, 6, 7, 8, 9}, nil},
		{beyondAll(), 400, 300, []impl.Rect{rect(0, 0, 400, 300), rect(0, 10, 400, 150), none, rect(0, 10, 400, 150), rect(0, 10, 400, 150)}, []int{2}, []int{1, 4}, nil},
		// The inner grids are less wide than their columns, of which the last ones reach beyond them.
		{nestedGrids(), 400, 9, []impl.Rect{rect(0, 0, 400, 9), rect(0, 0, 400, 4), rect(0, 1, 113, 2), rect(113, 0, 113, 3), rect(226, 0, 114, 4), rect(60, 1, 30, 2), rect(203, 0, 23, 3), none},
			[]int{7}, []int{6, 7}, []int{1, 2, 3, 4}},
		{stiff(), 30, 30, []impl.Rect{rect(0, 0, 30, 30), rect(10, 0, 10, 9), rect(10, 0, 10, 5), rect(10, 5, 8, 4)}, nil, nil, []int{2, 3}},
		{window(), 40, 5, []impl.Rect{rect(0, 0, 40, 5), rect(0, 0, 40, 5), rect(0, 0, 8, 4), rect(8, 0, 6, 5), none, none}, []int{4, 5}, []int{5}, []int{4}},
		// A root that keeps its size has what it asks for, and its kid has not.
		{tree(kept(own), leaf(0, 9, 8, item(impl.SdTop, 0, 0))), 7, 12, []impl.Rect{rect(0, 0, 7, 12), rect(0, 0, 7, 8)}, nil, nil, []int{1}},
		// The least width of a column reaches beyond the grid.
		{tree(gridded(root, []impl.Line{{Min: 9}}, make([]impl.Line, 1)), celled(0, 9, 2, alone(0, 0, 0, 0))), 6, 3, []impl.Rect{rect(0, 0, 6, 3), rect(0, 0, 6, 2)}, nil, []int{1}, nil},
		{sharedCell(), 7, 4, []impl.Rect{rect(0, 0, 7, 4), rect(0, 0, 5, 4), rect(1, 0, 3, 3), rect(5, 1, 2, 2)}, nil, nil, nil},
		// What is placed is cut by what it asks for, across or down, and not by what it is in.
		{tree(board(root), wishing, wider, content), 4, 9, []impl.Rect{rect(0, 0, 4, 9), rect(2, 2, 2, 4), rect(2, 2, 2, 4), rect(2, 2, 2, 4)}, nil, []int{1, 2, 3}, []int{1, 2}},
	}
}

func TestSeenExamples(t *testing.T) {
	for _, c := range views() {
		for i, want := range c.seen {
			if got, ok := impl.SeenPart(c.tree, c.w, c.h, i); got != want || ok != (want != none) {
				t.Errorf("SeenPart(%+v, %d, %d, %d) = %v, %v, not %v", c.tree, c.w, c.h, i, got, ok, want)
			}
		}
		hidden, clipped, cut := impl.HiddenNodes(c.tree, c.w, c.h), impl.ClippedNodes(c.tree, c.w, c.h), impl.CutNodes(c.tree, c.w, c.h)
		if !slices.Equal(hidden, c.hidden) || !slices.Equal(clipped, c.clipped) || !slices.Equal(cut, c.cut) {
			t.Errorf("%+v in %d, %d: %v are hidden, %v clipped and %v cut, not %v, %v and %v", c.tree, c.w, c.h, hidden, clipped, cut, c.hidden, c.clipped, c.cut)
		}
	}
}

// seenPoints returns the points of a node that all above it have, too.
func seenPoints(tr impl.Tree, rects []impl.Rect, i int) map[[2]int]bool {
	seen := points(rects[i])
	for _, n := range wantWay(tr, i) {
		seen = common(seen, points(rects[n]))
	}
	return seen
}

func TestSeenPartHasThePointsOfAllAbove(t *testing.T) {
	for _, tr := range []impl.Tree{window(), gridInGrid(), stiff(), mixedOrder(), strayed(), piled(), pointless(), sharedCell()} {
		for _, s := range []size{{0, 0}, {9, 14}, {17, 6}, {30, 30}} {
			rects := wantLayout(tr, s.w, s.h)
			for i := range rects {
				want := seenPoints(tr, rects, i)
				got, ok := impl.SeenPart(tr, s.w, s.h, i)
				if has := points(got); len(has) != len(want) || len(common(has, want)) != len(want) || ok != (len(want) > 0) {
					t.Errorf("SeenPart(%+v, %v, %d) = %v, %v, but it has %d points", tr, s, i, got, ok, len(want))
				}
			}
		}
	}
}

func TestSeenPart(t *testing.T) {
	parts, great := 0, 0
	eachSeen(func(tr impl.Tree, w, h int, rects []impl.Rect) {
		for i, r := range rects {
			want, wantOk := wantSeen(tr, rects, i)
			if got, ok := impl.SeenPart(tr, w, h, i); got != want || ok != wantOk {
				t.Errorf("SeenPart(%+v, %d, %d, %d) = %v, %v, not %v, %v", tr, w, h, i, got, ok, want, wantOk)
			}
			if wantOk && want != r {
				parts++
			}
			if wantOk && !impl.ValidRect(r) {
				great++
			}
		}
	})
	if parts == 0 || great == 0 {
		t.Errorf("%d nodes are seen in part, and %d beyond the limits", parts, great)
	}
}

// aiming is a point of a tree in a size, and the node that it hits.
type aiming struct {
	at   spot
	want int
}

// wantHits checks which nodes the points of a tree hit.
func wantHits(t *testing.T, tr impl.Tree, w, h int, list []aiming) {
	t.Helper()
	for _, c := range list {
		if got := impl.HitNode(tr, w, h, c.at.x, c.at.y); got != c.want {
			t.Errorf("HitNode(%+v, %d, %d, %v) = %d, not %d", tr, w, h, c.at, got, c.want)
		}
	}
}

func TestHitNodeExamples(t *testing.T) {
	wantHits(t, tree(root), 3, 2, []aiming{{spot{0, 0}, 0}, {spot{2, 1}, 0}, {spot{3, 1}, -1}, {spot{2, 2}, -1}, {spot{-1, 0}, -1}, {spot{0, -1}, -1}})
	wantHits(t, tree(root), 0, 2, []aiming{{spot{0, 0}, -1}, {spot{0, 1}, -1}})
	wantHits(t, tree(root), 400, 400, []aiming{{spot{399, 399}, 0}, {spot{400, 0}, -1}, {spot{0, 400}, -1}})
	// A kid is hit only where all above it are.
	wantHits(t, strayed(), 40, 30, []aiming{{spot{0, 0}, 6}, {spot{4, 4}, 6}, {spot{5, 4}, 0}, {spot{4, 5}, 0}, {spot{-1, -1}, -1}, {spot{-4, -4}, -1}, {spot{10, 10}, 1}, {spot{9, 10}, 0}, {spot{25, 10}, 2}, {spot{29, 12}, 2},
		{spot{29, 13}, 1}, {spot{24, 12}, 1}, {spot{25, 9}, 0}, {spot{30, 10}, 0}, {spot{35, 10}, 0}, {spot{39, 29}, 0}, {spot{40, 29}, -1}, {spot{39, 30}, -1}})
	// The last kid is hit, whatever kids the ones below it have.
	wantHits(t, piled(), 30, 20, []aiming{{spot{2, 3}, 2}, {spot{3, 4}, 2}, {spot{4, 5}, 2}, {spot{1, 3}, 0}, {spot{11, 9}, 2}, {spot{10, 10}, 2}, {spot{11, 10}, 6}, {spot{12, 9}, 3}, {spot{12, 10}, 6}, {spot{15, 14}, 6}, {spot{16, 14}, 0}})
	wantHits(t, pointless(), 20, 15, []aiming{{spot{5, 5}, 0}, {spot{4, 6}, 0}, {spot{0, 0}, 0}, {spot{19, 14}, 0}, {spot{20, 15}, -1}, {spot{0, -1}, -1}})
	wantHits(t, giants(), 400, 400, []aiming{{spot{0, 0}, 6}, {spot{1, 0}, 2}, {spot{399, 399}, 2}, {spot{-1, -1}, -1}, {spot{-300, -300}, -1}})
	wantHits(t, ladder(), 400, 400, []aiming{{spot{0, 0}, 9}, {spot{399, 0}, 9}, {spot{400, 0}, -1}, {spot{-1, 399}, -1}})
	wantHits(t, sharedCell(), 7, 4, []aiming{{spot{0, 0}, 1}, {spot{1, 0}, 2}, {spot{3, 2}, 2}, {spot{3, 3}, 1}, {spot{4, 0}, 1}, {spot{5, 0}, 0}, {spot{5, 1}, 3}, {spot{6, 2}, 3}})
	wantHits(t, mixedOrder(), 11, 10, []aiming{{spot{0, 2}, 3}, {spot{3, 2}, 1}, {spot{0, 3}, 6}, {spot{4, 3}, 4}, {spot{4, 4}, 7}, {spot{5, 4}, 2}, {spot{10, 6}, 5}, {spot{10, 7}, 0}})
}

func TestHitNodeOfEachPoint(t *testing.T) {
	for _, tr := range []impl.Tree{window(), gridInGrid(), stiff(), strayed(), piled(), pointless(), sharedCell()} {
		rects := wantLayout(tr, 26, 19)
		for x := -8; x <= 38; x++ {
			for y := -8; y <= 24; y++ {
				if got, want := impl.HitNode(tr, 26, 19, x, y), wantHitAnywhere(tr, rects, spot{x, y}); got != want {
					t.Errorf("HitNode(%+v, 26, 19, %d, %d) = %d, not %d", tr, x, y, got, want)
				}
			}
		}
	}
}

func TestHitNode(t *testing.T) {
	hits := make([]int, impl.MaxNodes)
	eachSpot(func(tr impl.Tree, w, h int, rects []impl.Rect, at spot) {
		got, want := impl.HitNode(tr, w, h, at.x, at.y), wantHitAnywhere(tr, rects, at)
		if got != want {
			t.Errorf("HitNode(%+v, %d, %d, %v) = %d, not %d", tr, w, h, at, got, want)
		}
		if want >= 0 {
			hits[want]++
		}
	})
	if slices.Contains(hits, 0) {
		t.Errorf("nodes are hit so often: %v", hits)
	}
}

func TestHitNodeFarOutside(t *testing.T) {
	for _, tr := range []impl.Tree{tree(root), window(), giants(), ladder(), beyondAll()} {
		for _, n := range append(greatNumbers(), -3101, -1001, -301, -300, -1, 400, 401, 700, 1000, 3100) {
			for _, at := range []spot{{n, 5}, {5, n}, {n, n}} {
				if got := impl.HitNode(tr, 400, 400, at.x, at.y); got != -1 {
					t.Errorf("HitNode(%+v, 400, 400, %v) = %d", tr, at, got)
				}
			}
		}
	}
}

func TestWayUpExamples(t *testing.T) {
	for _, c := range []struct {
		tree impl.Tree
		i    int
		want []int
	}{
		{tree(root), 0, []int{0}}, {window(), 0, []int{0}}, {window(), 1, []int{1, 0}}, {window(), 5, []int{5, 4, 0}}, {mixedOrder(), 7, []int{7, 2, 0}}, {mixedOrder(), 8, []int{8, 1, 0}}, {crowd(), 9, []int{9, 0}},
		{strayed(), 4, []int{4, 3, 1, 0}}, {ladder(), 9, []int{9, 8, 7, 6, 5, 4, 3, 2, 1, 0}}, {ladder(), 4, []int{4, 3, 2, 1, 0}}, {chain(impl.KdPack, impl.KdGrid, impl.KdPlace), 9, []int{9, 8, 7, 6, 5, 4, 3, 2, 1, 0}},
	} {
		if got := impl.WayUp(c.tree, c.i); !slices.Equal(got, c.want) {
			t.Errorf("WayUp(%+v, %d) = %v, not %v", c.tree, c.i, got, c.want)
		}
	}
}

func TestWayUp(t *testing.T) {
	for _, tr := range append(seenEdgeTrees(), mixedTrees()...) {
		for i := range tr.Nodes {
			if got, want := impl.WayUp(tr, i), wantWay(tr, i); !slices.Equal(got, want) {
				t.Errorf("WayUp(%+v, %d) = %v, not %v", tr, i, got, want)
			}
		}
	}
}

// wantSame checks lists that calls return, and reports whether the wanted one has anything.
func wantSame(t *testing.T, what string, tr impl.Tree, w, h int, got, want []int) bool {
	t.Helper()
	if !slices.Equal(got, want) {
		t.Errorf("%s of %+v in %d, %d = %v, not %v", what, tr, w, h, got, want)
	}
	return len(want) > 0
}

func TestHiddenClippedAndCutNodes(t *testing.T) {
	hidden, clipped, cut := 0, 0, 0
	eachSeen(func(tr impl.Tree, w, h int, rects []impl.Rect) {
		if wantSame(t, "HiddenNodes", tr, w, h, impl.HiddenNodes(tr, w, h), wantHidden(tr, rects)) {
			hidden++
		}
		if wantSame(t, "ClippedNodes", tr, w, h, impl.ClippedNodes(tr, w, h), wantClipped(tr, rects)) {
			clipped++
		}
		if wantSame(t, "CutNodes", tr, w, h, impl.CutNodes(tr, w, h), wantCutNodes(tr, rects)) {
			cut++
		}
	})
	if hidden == 0 || clipped == 0 || cut == 0 {
		t.Errorf("%d trees have hidden, %d clipped and %d cut nodes", hidden, clipped, cut)
	}
}

func TestOverlapsInExamples(t *testing.T) {
	for _, c := range []struct {
		tree    impl.Tree
		w, h, i int
		want    []int
	}{
		{tree(board(root)), 9, 9, 0, nil},
		{strayed(), 40, 30, 0, nil},
		// Kids overlap outside of their parents, too, but not where they only meet.
		{strayed(), 40, 30, 1, []int{2, 5}},
		{strayed(), 0, 0, 1, []int{2, 5}},
		{strayed(), 40, 30, 3, nil},
		{piled(), 30, 20, 0, []int{1, 2, 1, 6, 2, 6, 3, 6}},
		{piled(), 30, 20, 1, nil},
		{piled(), 30, 20, 7, nil},
		{pointless(), 20, 15, 0, nil},
		{pointless(), 20, 15, 1, nil},
		{giants(), 400, 400, 0, []int{1, 2}},
		{giants(), 400, 400, 1, []int{3, 4}},
		{giants(), 400, 400, 3, nil},
		{ladder(), 400, 400, 8, nil},
		{window(), 40, 25, 0, nil},
		{window(), 3, 4, 1, nil},
		{sharedCell(), 7, 4, 0, []int{1, 2}},
		{tree(board(root), hung(0, fixedPlace(0, 0, 3, 3, 0)), board(hung(0, fixedPlace(2, 2, 3, 3, 0))), hung(2, fixedPlace(-1, -1, 9, 9, 0)), hung(0, fixedPlace(-2, 1, 3, 1, 0))), 9, 9, 0, []int{1, 2, 1, 4}},
	} {
		if got := impl.OverlapsIn(c.tree, c.w, c.h, c.i); !slices.Equal(got, c.want) {
			t.Errorf("OverlapsIn(%+v, %d, %d, %d) = %v, not %v", c.tree, c.w, c.h, c.i, got, c.want)
		}
	}
}

func TestOverlapsOfAllKids(t *testing.T) {
	tr := tree(board(root))
	var want []int
	for i := 1; i <= 9; i++ {
		tr.Nodes = append(tr.Nodes, hung(0, fixedPlace(-i, i, 20, 20, 0)))
		for other := i + 1; other <= 9; other++ {
			want = append(want, i, other)
		}
	}
	if got := impl.OverlapsIn(tr, 50, 50, 0); len(got) != 72 || !slices.Equal(got, want) {
		t.Errorf("OverlapsIn(%+v, 50, 50, 0) = %v, not %v", tr, got, want)
	}
}

func TestOverlapsIn(t *testing.T) {
	some, great := 0, 0
	eachSeen(func(tr impl.Tree, w, h int, rects []impl.Rect) {
		for i := range rects {
			want := wantOverlaps(tr, rects, i)
			if wantSame(t, "OverlapsIn", tr, w, h, impl.OverlapsIn(tr, w, h, i), want) {
				some++
			}
			if slices.ContainsFunc(want, func(kid int) bool { return !impl.ValidRect(rects[kid]) }) {
				great++
			}
		}
	})
	if some == 0 || great == 0 {
		t.Errorf("%d times kids overlap, and %d times such as are beyond the limits", some, great)
	}
}

// wantUnseen checks that nothing is told of what is seen of a tree in a size.
func wantUnseen(t *testing.T, tr impl.Tree, w, h int) {
	t.Helper()
	part, ok := impl.SeenPart(tr, w, h, 0)
	overlaps, hit := impl.OverlapsIn(tr, w, h, 0), impl.HitNode(tr, w, h, 0, 0)
	hidden, clipped, cut := impl.HiddenNodes(tr, w, h), impl.ClippedNodes(tr, w, h), impl.CutNodes(tr, w, h)
	if ok || part != none || hit != -1 || overlaps != nil || hidden != nil || clipped != nil || cut != nil {
		t.Errorf("%+v in %d, %d: %v, %v, %d, %v, %v, %v, %v", tr, w, h, part, ok, hit, overlaps, hidden, clipped, cut)
	}
}

func TestSeenInvalidTrees(t *testing.T) {
	for _, tr := range badTrees() {
		wantUnseen(t, tr, 30, 20)
		wantUnseen(t, tr, 0, 0)
		for i := range min(len(tr.Nodes)+1, impl.MaxNodes+1) {
			part, ok := impl.SeenPart(tr, 30, 20, i)
			way, overlaps := impl.WayUp(tr, i), impl.OverlapsIn(tr, 30, 20, i)
			if ok || part != none || way != nil || overlaps != nil {
				t.Errorf("node %d of %+v: %v, %v, %v, %v", i, tr, part, ok, way, overlaps)
			}
		}
	}
}

func TestSeenInvalidNodes(t *testing.T) {
	for _, tr := range seenEdgeTrees() {
		for _, i := range append(beyond(0, len(tr.Nodes)-1), 10, 11) {
			part, ok := impl.SeenPart(tr, 30, 20, i)
			way, overlaps := impl.WayUp(tr, i), impl.OverlapsIn(tr, 30, 20, i)
			if ok || part != none || way != nil || overlaps != nil {
				t.Errorf("node %d of %+v: %v, %v, %v, %v", i, tr, part, ok, way, overlaps)
			}
		}
	}
}

func TestSeenInvalidSizes(t *testing.T) {
	for _, tr := range seenEdgeTrees() {
		for _, s := range badSizes() {
			wantUnseen(t, tr, s.w, s.h)
		}
	}
}

func TestSeenAtTheLimits(t *testing.T) {
	tr := ladder()
	if part, ok := impl.SeenPart(tr, 400, 400, 9); !ok || part != rect(0, 0, 400, 400) {
		t.Errorf("SeenPart of the tenth node = %v, %v", part, ok)
	}
	wantUnseen(t, tr, 401, 400)
	wantUnseen(t, tr, 400, 401)
	tr.Nodes = append(tr.Nodes, hung(9, impl.Place{}))
	wantUnseen(t, tr, 400, 400)
	if way := impl.WayUp(tr, 10); way != nil {
		t.Errorf("WayUp(%+v, 10) = %v", tr, way)
	}
}

func TestSeenTreesAreNotChanged(t *testing.T) {
	shared, lines, all := sharingTree()
	beforeLines, before := slices.Clone(lines), slices.Clone(all)
	for _, tr := range append(seenEdgeTrees(), shared) {
		nodes := slices.Clone(tr.Nodes)
		for i := range tr.Nodes {
			impl.SeenPart(tr, 30, 20, i)
			wantFresh(t, "WayUp", -77, func() []int { return impl.WayUp(tr, i) })
			wantFresh(t, "OverlapsIn", -77, func() []int { return impl.OverlapsIn(tr, 30, 20, i) })
		}
		impl.HitNode(tr, 30, 20, 10, 10)
		wantFresh(t, "HiddenNodes", -77, func() []int { return impl.HiddenNodes(tr, 3, 2) })
		wantFresh(t, "ClippedNodes", -77, func() []int { return impl.ClippedNodes(tr, 3, 2) })
		wantFresh(t, "CutNodes", -77, func() []int { return impl.CutNodes(tr, 3, 2) })
		if !sameTree(tr, impl.Tree{Nodes: nodes}) {
			t.Errorf("%+v has become %+v", nodes, tr)
		}
	}
	if !slices.Equal(lines, beforeLines) || !sameTree(impl.Tree{Nodes: all}, impl.Tree{Nodes: before}) {
		t.Errorf("%v, %+v have become %v, %+v", beforeLines, before, lines, all)
	}
}
