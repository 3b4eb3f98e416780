package tests

import (
	"slices"

	"loop.example/widgetroom/impl"
)

// strayed returns a tree of kids that lie outside of their parents, partly or wholly, also such that lie in the root again.
func strayed() impl.Tree {
	return tree(board(root), board(hung(0, fixedPlace(10, 10, 20, 10, 0))), hung(1, fixedPlace(15, -5, 10, 8, 0)), board(hung(1, fixedPlace(25, 0, 10, 10, 0))),
		hung(3, fixedPlace(-25, 0, 5, 5, 0)), hung(1, fixedPlace(20, 0, 5, 5, 0)), board(hung(0, fixedPlace(-5, -5, 10, 10, 0))), hung(6, fixedPlace(1, 1, 3, 3, 0)))
}

// piled returns a tree of kids that lie on each other, or side by side, or corner to corner.
func piled() impl.Tree {
	return tree(board(root), board(hung(0, fixedPlace(2, 3, 10, 8, 0))), board(hung(0, fixedPlace(2, 3, 10, 8, 0))), hung(0, fixedPlace(12, 3, 4, 8, 0)),
		hung(0, fixedPlace(4, 5, 0, 3, 0)), hung(1, fixedPlace(1, 1, 3, 3, 0)), hung(0, fixedPlace(11, 10, 5, 5, 0)), hung(2, fixedPlace(0, 0, 10, 8, 8)))
}

// pointless returns a tree of nodes without points, of which one has a kid with points, in and outside of their parents.
func pointless() impl.Tree {
	return tree(board(root), board(hung(0, fixedPlace(5, 5, 0, 10, 0))), hung(1, fixedPlace(-2, 0, 6, 6, 0)), hung(0, fixedPlace(20, 15, -3, 4, 0)),
		hung(0, fixedPlace(20, 15, 0, 0, 0)), hung(0, fixedPlace(21, 15, 0, 0, 0)), hung(0, fixedPlace(0, -1, 0, 0, 0)), hung(1, fixedPlace(0, 10, 0, 0, 0)))
}

// giants returns a tree of nodes that can be greater than a rectangle can be, on each other and in each other.
func giants() impl.Tree {
	before := impl.Place{X: -300, Y: -300, W: 300, H: 300, RelW: 1000, RelH: 1000}
	behind, same := before, before
	behind.X, behind.Y = 300, 300
	same.X, same.Y, same.W, same.H = 0, 0, 0, 0
	return tree(board(root), board(hung(0, before)), board(hung(0, before)), board(hung(1, before)), hung(1, same), hung(3, behind), hung(2, fixedPlace(300, 300, 1, 1, 0)))
}

// ladder returns a tree of as many nodes as there can be in which each one is the kid of the one before, and reaches further.
func ladder() impl.Tree {
	t := tree(board(root))
	for i := range impl.MaxNodes - 1 {
		t.Nodes = append(t.Nodes, board(hung(i, impl.Place{X: -300, Y: -300, W: 300, H: 300, RelW: 1000, RelH: 1000})))
	}
	return t
}

// nestedGrids returns a tree of a root that packs a grid that asks for more than a side can be, for the grids in it.
func nestedGrids() impl.Tree {
	wide := slices.Repeat([]impl.Line{{Weight: 1, Min: 30}}, 5)
	t := tree(root, gridded(leaf(0, 0, 0, filling(impl.SdTop, false)), wide, make([]impl.Line, 1)))
	for col := range 3 {
		t.Nodes = append(t.Nodes, gridded(celled(1, 0, 0, alone(col, 0, 0, 0)), wide, make([]impl.Line, 1)))
	}
	for parent := 2; parent <= 4; parent++ {
		t.Nodes = append(t.Nodes, celled(parent, 30, parent, alone(parent, 0, 0, 0)))
	}
	return t
}

// sharedCell returns a tree of a grid of which two cells are the same one.
func sharedCell() impl.Tree {
	return tree(gridded(root, make([]impl.Line, 2), []impl.Line{{Min: 3}}), celled(0, 5, 4, alone(0, 0, 0, 0)), celled(0, 3, 3, alone(0, 0, 0, 0)), celled(0, 2, 2, alone(1, 0, 0, 0)))
}

// seenEdgeTrees returns trees that the document names.
func seenEdgeTrees() []impl.Tree {
	return append(edgeTrees(), strayed(), piled(), pointless(), giants(), ladder(), nestedGrids(), sharedCell())
}

// seenSizes returns the sizes in which it is looked at what is seen of a tree.
func seenSizes(t impl.Tree) []size {
	return append(treeSizes(t), size{40, 30}, size{20, 15}, size{1, 1}, size{10, 400})
}

// someSizes returns one of so many of the sizes for a tree, other ones for each number.
func someSizes(t impl.Tree, n, of int) []size {
	var list []size
	for k, s := range seenSizes(t) {
		if k%of == n%of {
			list = append(list, s)
		}
	}
	return list
}

// eachTreeIn calls a function with trees of all sorts and sizes of all sorts, but for those without a name only with one of so many sizes.
func eachTreeIn(of int, do func(t impl.Tree, in size)) {
	for _, t := range seenEdgeTrees() {
		for _, in := range seenSizes(t) {
			do(t, in)
		}
	}
	for n, t := range mixedTrees() {
		for _, in := range someSizes(t, n, of) {
			do(t, in)
		}
	}
}

// eachSeen calls a function with trees of all sorts, sizes of all sorts, and the rectangles that their nodes have there.
func eachSeen(do func(t impl.Tree, w, h int, rects []impl.Rect)) {
	eachTreeIn(3, func(t impl.Tree, in size) {
		do(t, in.w, in.h, wantLayout(t, in.w, in.h))
	})
}

// spotsAt returns the points at all edges of a rectangle, just inside and just outside.
func spotsAt(r impl.Rect) []spot {
	var list []spot
	for _, x := range []int{r.X - 1, r.X, r.X + r.W - 1, r.X + r.W} {
		for _, y := range []int{r.Y - 1, r.Y, r.Y + r.H - 1, r.Y + r.H} {
			list = append(list, spot{x, y})
		}
	}
	return list
}

// eachSpot calls a function with trees of all sorts, sizes of all sorts, the rectangles of their nodes, and points at the edges of these.
func eachSpot(do func(t impl.Tree, w, h int, rects []impl.Rect, at spot)) {
	// There are so many points that a tree without a name has only one of its sizes.
	eachTreeIn(14, func(t impl.Tree, in size) {
		rects := wantLayout(t, in.w, in.h)
		for _, r := range rects {
			for _, at := range spotsAt(r) {
				do(t, in.w, in.h, rects, at)
			}
		}
	})
}

// The functions below say what the document says, as directly as they can.

// hasSpot reports whether a rectangle, as great as it is, has a point.
func hasSpot(r impl.Rect, at spot) bool {
	return at.x >= r.X && at.x <= r.X+r.W-1 && at.y >= r.Y && at.y <= r.Y+r.H-1
}

// hasPoints reports whether a rectangle has points.
func hasPoints(r impl.Rect) bool {
	return r.W > 0 && r.H > 0
}

// wantWay returns a node and all above it.
func wantWay(t impl.Tree, i int) []int {
	if i == 0 {
		return []int{0}
	}
	return append([]int{i}, wantWay(t, t.Nodes[i].Parent)...)
}

// wantSeen returns what is seen of a node, and whether something is.
func wantSeen(t impl.Tree, rects []impl.Rect, i int) (impl.Rect, bool) {
	var lefts, tops, rights, bottoms []int
	for _, n := range wantWay(t, i) {
		r := rects[n]
		lefts, tops, rights, bottoms = append(lefts, r.X), append(tops, r.Y), append(rights, r.X+r.W), append(bottoms, r.Y+r.H)
	}
	left, top := slices.Max(lefts), slices.Max(tops)
	part := rect(left, top, slices.Min(rights)-left, slices.Min(bottoms)-top)
	if !hasPoints(part) {
		return none, false
	}
	return part, true
}

// wantHit returns the node that a point hits, from a node on that has it.
func wantHit(t impl.Tree, rects []impl.Rect, i int, at spot) int {
	hit := i
	for _, k := range kidsIn(t, i) {
		if hasSpot(rects[k], at) {
			hit = wantHit(t, rects, k, at)
		}
	}
	return hit
}

// wantHitAnywhere returns the node that a point hits.
func wantHitAnywhere(t impl.Tree, rects []impl.Rect, at spot) int {
	if !hasSpot(rects[0], at) {
		return -1
	}
	return wantHit(t, rects, 0, at)
}

// wantHidden returns the nodes of which nothing is seen.
func wantHidden(t impl.Tree, rects []impl.Rect) []int {
	var list []int
	for i := range rects {
		if _, ok := wantSeen(t, rects, i); !ok {
			list = append(list, i)
		}
	}
	return list
}

// wantClipped returns the nodes that do not lie in their parents.
func wantClipped(t impl.Tree, rects []impl.Rect) []int {
	var list []int
	for i := 1; i < len(rects); i++ {
		if !liesIn(rects[t.Nodes[i].Parent], rects[i]) {
			list = append(list, i)
		}
	}
	return list
}

// overlap reports whether two rectangles have points in common.
func overlap(a, b impl.Rect) bool {
	return hasPoints(a) && hasPoints(b) && a.X < b.X+b.W && b.X < a.X+a.W && a.Y < b.Y+b.H && b.Y < a.Y+a.H
}

// wantOverlaps returns the pairs of kids of a node that overlap.
func wantOverlaps(t impl.Tree, rects []impl.Rect, i int) []int {
	var list []int
	for a := range rects {
		for b := a + 1; b < len(rects); b++ {
			if t.Nodes[a].Parent == i && t.Nodes[b].Parent == i && overlap(rects[a], rects[b]) {
				list = append(list, a, b)
			}
		}
	}
	return list
}

// wantCutNodes returns the nodes but the root that are less wide or less high than they ask for.
func wantCutNodes(t impl.Tree, rects []impl.Rect) []int {
	var list []int
	for i := 1; i < len(rects); i++ {
		if s := wantAsked(t, i); rects[i].W < s.w || rects[i].H < s.h {
			list = append(list, i)
		}
	}
	return list
}
