package tests

import (
	"slices"

	"loop.example/widgetroom/impl"
)

// leaf returns a node that asks for a size, to be packed as an item is.
func leaf(parent, w, h int, p impl.Pack) impl.Node {
	return impl.Node{Parent: parent, W: w, H: h, Pack: p}
}

// celled returns a node that asks for a size, to be put in a grid as a cell is.
func celled(parent, w, h int, c impl.Cell) impl.Node {
	return impl.Node{Parent: parent, W: w, H: h, Cell: c}
}

// hung returns a node that is placed.
func hung(parent int, p impl.Place) impl.Node {
	return impl.Node{Parent: parent, Place: p}
}

// gridded returns a node whose kids lie in a grid.
func gridded(n impl.Node, cols, rows []impl.Line) impl.Node {
	n.Kind, n.Cols, n.Rows = impl.KdGrid, cols, rows
	return n
}

// board returns a node whose kids are placed.
func board(n impl.Node) impl.Node {
	n.Kind = impl.KdPlace
	return n
}

// kept returns a node that keeps its size.
func kept(n impl.Node) impl.Node {
	n.Keep = true
	return n
}

// tree returns a tree.
func tree(nodes ...impl.Node) impl.Tree {
	return impl.Tree{Nodes: nodes}
}

// root is a node that packs its kids and lies in no other one.
var root = impl.Node{Parent: -1}

// filling returns an item that is packed at a side and has all of its parcel.
func filling(side int, expand bool) impl.Pack {
	return impl.Pack{Side: side, FillX: true, FillY: true, Expand: expand}
}

// window returns a tree of a root that packs a bar with two buttons, and a board on which something is placed.
func window() impl.Tree {
	return tree(root, leaf(0, 1, 2, filling(impl.SdTop, false)), leaf(1, 8, 4, item(impl.SdLeft, 0, 0)), leaf(1, 6, 5, item(impl.SdLeft, 0, 0)),
		board(leaf(0, 20, 10, filling(impl.SdTop, true))), hung(4, impl.Place{RelX: 500, RelY: 500, W: 30, H: 3, Anchor: 4}))
}

// gridInGrid returns a tree of a grid that lies in a cell of another one, beside something else.
func gridInGrid() impl.Tree {
	inner := impl.Cell{ManyCols: 1, ManyRows: 1, Stick: 15, PadX: 1, PadY: 2}
	full := alone(1, 1, 0, 0)
	full.Stick = 15
	return tree(gridded(root, []impl.Line{{Weight: 1}, {Min: 3}}, []impl.Line{{Weight: 1}}), gridded(celled(0, 0, 0, inner), []impl.Line{{Weight: 1}, {Weight: 2}}, make([]impl.Line, 2)),
		celled(0, 4, 9, alone(1, 0, 0, 0)), celled(1, 2, 3, alone(0, 0, 0, 0)), celled(1, 5, 1, full))
}

// stiff returns a tree of a node that keeps its size, with kids that ask for more.
func stiff() impl.Tree {
	return tree(root, kept(leaf(0, 10, 9, item(impl.SdTop, 0, 0))), leaf(1, 20, 5, item(impl.SdTop, 0, 0)), leaf(1, 8, 8, item(impl.SdLeft, 0, 0)))
}

// beyondAll returns a tree of nodes that are placed far outside, greater than a rectangle can be, with others in them.
func beyondAll() impl.Tree {
	great := impl.Place{RelX: 1000, RelY: 1000, W: 300, H: 300, RelW: 1000, RelH: 1000, Anchor: 8}
	right := item(impl.SdRight, 0, 0)
	right.FillY = true
	return tree(board(root), hung(0, impl.Place{X: -20, Y: 10, W: 300, RelW: 1000, RelH: 500}), leaf(1, 30, 20, right), board(leaf(1, 0, 0, filling(impl.SdTop, true))), hung(3, great))
}

// crowd returns a tree of a root with as many kids as a tree can have, which need 50 across each.
func crowd() impl.Tree {
	t := tree(root)
	wide := item(impl.SdLeft, 0, 0)
	wide.PadX = 10
	for range 9 {
		t.Nodes = append(t.Nodes, leaf(0, 30, 30, wide))
	}
	return t
}

// crowdedGrid returns a tree of a grid with as many kids as a tree can have.
func crowdedGrid() impl.Tree {
	t := tree(gridded(root, make([]impl.Line, 3), make([]impl.Line, 3)))
	for i := range 9 {
		t.Nodes = append(t.Nodes, celled(0, i+1, 9-i, alone(i%3, i/3, 0, 0)))
	}
	return t
}

// wideGrids returns a tree of grids in a grid that ask for more than a rectangle can be.
func wideGrids() impl.Tree {
	wide := slices.Repeat([]impl.Line{{Weight: 5, Min: 30}}, 5)
	t := tree(gridded(root, wide, wide[:1]))
	for col := range 4 {
		t.Nodes = append(t.Nodes, gridded(celled(0, 0, 0, alone(col, 0, 0, 0)), wide, make([]impl.Line, 1)))
	}
	for parent := range 4 {
		t.Nodes = append(t.Nodes, celled(parent+1, 7, 6, broad(parent, 0, 5-parent, 1, 0, 0)))
	}
	return t
}

// chain returns a tree in which each node but the last one has one kid, with all sorts of parents.
func chain(kinds ...int) impl.Tree {
	lines := []impl.Line{{Weight: 1, Min: 2}, {Weight: 2}}
	t := impl.Tree{}
	for i := range impl.MaxNodes {
		n := impl.Node{Parent: i - 1, W: i, H: 10 - i, Kind: kinds[i%len(kinds)], Pack: impl.Pack{Side: i % 4, Anchor: 4, PadX: 1, Expand: i%2 == 0, FillX: true},
			Cell: impl.Cell{Col: i % 2, ManyCols: 1, ManyRows: 2, PadY: 3, Stick: i}, Place: impl.Place{X: -3, RelX: 100, W: 5, RelW: 900, RelH: 1000, Anchor: i % 9}}
		if n.Kind == impl.KdGrid {
			n = gridded(n, lines, lines)
		}
		t.Nodes = append(t.Nodes, n)
	}
	return t
}

// mixedOrder returns a tree in which the kids of a node do not follow each other.
func mixedOrder() impl.Tree {
	top, left := item(impl.SdTop, 0, 0), item(impl.SdLeft, 0, 0)
	return tree(root, leaf(0, 0, 0, left), leaf(0, 0, 0, left), leaf(1, 3, 1, top), leaf(2, 2, 4, top), leaf(0, 5, 5, left), leaf(1, 4, 2, top), leaf(2, 1, 6, left), leaf(1, 2, 3, left))
}

// singleTrees returns trees of a root alone, of each kind, also at the limits.
func singleTrees() []impl.Tree {
	var trees []impl.Tree
	lines := slices.Repeat([]impl.Line{{Weight: 5, Min: 30}}, impl.MaxLines)
	for _, s := range []size{{0, 0}, {30, 0}, {0, 30}, {30, 30}, {7, 12}} {
		n := root
		n.W, n.H = s.w, s.h
		for _, n := range []impl.Node{n, board(n), gridded(n, lines, lines[:1]), gridded(n, make([]impl.Line, 1), lines)} {
			trees = append(trees, tree(n), tree(kept(n)))
		}
	}
	// What a root asks of a parent is not used, but is valid too.
	trees = append(trees, tree(impl.Node{Parent: -1, Pack: impl.Pack{Side: 3, PadX: 10, PadY: 10, Anchor: 8, Expand: true}, Place: impl.Place{X: 300, W: -300, RelH: 1000, Anchor: 8}}))
	return append(trees, tree(impl.Node{Parent: -1, Cols: []impl.Line{}, Rows: []impl.Line{}, Cell: oddCell()}))
}

// oddCell returns a cell that is of no grid, but does not ask for a size.
func oddCell() impl.Cell {
	return impl.Cell{Col: -5, Row: greatNumbers()[0], ManyCols: greatNumbers()[11], ManyRows: -1, Stick: 16, PadX: 11, PadY: -1}
}

// edgeTrees returns trees that the document names.
func edgeTrees() []impl.Tree {
	trees := append(singleTrees(), window(), gridInGrid(), stiff(), beyondAll(), crowd(), crowdedGrid(), wideGrids(), mixedOrder())
	trees = append(trees, chain(impl.KdPack), chain(impl.KdGrid), chain(impl.KdPlace), chain(impl.KdPack, impl.KdGrid), chain(impl.KdPack, impl.KdGrid, impl.KdPlace), chain(impl.KdGrid, impl.KdPlace))
	// Only in a grid a cell must be one of it.
	odd := leaf(0, 3, 4, item(impl.SdTop, 0, 0))
	odd.Cell = oddCell()
	stiffGrid := gridInGrid()
	stiffGrid.Nodes[1] = kept(stiffGrid.Nodes[1])
	stiffGrid.Nodes[1].W = 11
	return append(trees, tree(root, odd), tree(board(root), odd), tree(kept(root), odd), stiffGrid)
}

// mixedNode returns a node of all sorts behind others, as great as told.
func mixedNode(r *row, nodes []impl.Node, mostWish, mostPad int) impl.Node {
	n := impl.Node{Parent: -1, W: r.upTo(mostWish), H: r.upTo(mostWish), Keep: r.upTo(5) == 0, Kind: r.upTo(2), Place: placed(mixedHang(r), mixedHang(r), r.upTo(8)),
		Pack: impl.Pack{Side: r.upTo(3), FillX: r.yes(), FillY: r.yes(), Expand: r.yes(), Anchor: r.upTo(8), PadX: r.upTo(mostPad), PadY: r.upTo(mostPad)}}
	n.Cell = oddCell()
	if n.Kind == impl.KdGrid {
		n.Cols, n.Rows = mixedLines(r, 1+r.upTo(4)), mixedLines(r, 1+r.upTo(4))
	}
	if len(nodes) > 0 {
		n.Parent = r.upTo(len(nodes) - 1)
		if parent := nodes[n.Parent]; parent.Kind == impl.KdGrid {
			n.Cell = mixedCell(r, len(parent.Cols), len(parent.Rows), 0, mostPad)
		}
	}
	return n
}

// mixedTrees returns trees of all sorts.
func mixedTrees() []impl.Tree {
	var trees []impl.Tree
	r := &row{}
	for n := range 1500 {
		t := impl.Tree{}
		mostWish, mostPad := []int{5, 12, 30}[r.upTo(2)], []int{0, 3, 10}[r.upTo(2)]
		for range n%impl.MaxNodes + 1 {
			t.Nodes = append(t.Nodes, mixedNode(r, t.Nodes, mostWish, mostPad))
		}
		trees = append(trees, t)
	}
	return trees
}

// goodTrees returns valid trees of all sorts.
func goodTrees() []impl.Tree {
	return append(edgeTrees(), mixedTrees()...)
}

// changedTree returns a tree in which a node is changed.
func changedTree(t impl.Tree, i int, change func(n *impl.Node)) impl.Tree {
	nodes := slices.Clone(t.Nodes)
	change(&nodes[i])
	return impl.Tree{Nodes: nodes}
}

// sameTree reports whether two trees are the same.
func sameTree(a, b impl.Tree) bool {
	return slices.EqualFunc(a.Nodes, b.Nodes, func(m, n impl.Node) bool {
		return m.Parent == n.Parent && m.W == n.W && m.H == n.H && m.Keep == n.Keep && m.Kind == n.Kind && slices.Equal(m.Cols, n.Cols) && slices.Equal(m.Rows, n.Rows) &&
			m.Pack == n.Pack && m.Cell == n.Cell && m.Place == n.Place
	})
}

// badOwns returns changes by which a node is not valid in any tree.
func badOwns() []func(n *impl.Node) {
	var changes []func(n *impl.Node)
	for _, field := range []struct {
		set  func(n *impl.Node, to int)
		most int
	}{
		{func(n *impl.Node, to int) { n.W = to }, 30},
		{func(n *impl.Node, to int) { n.H = to }, 30},
		{func(n *impl.Node, to int) { n.Kind = to }, 2},
		{func(n *impl.Node, to int) { n.Pack.W = to }, 0},
		{func(n *impl.Node, to int) { n.Pack.H = to }, 0},
		{func(n *impl.Node, to int) { n.Cell.W = to }, 0},
		{func(n *impl.Node, to int) { n.Cell.H = to }, 0},
		{func(n *impl.Node, to int) { n.Pack.Side = to }, 3},
		{func(n *impl.Node, to int) { n.Pack.Anchor = to }, 8},
		{func(n *impl.Node, to int) { n.Pack.PadX = to }, 10},
		{func(n *impl.Node, to int) { n.Pack.PadY = to }, 10},
	} {
		for _, to := range beyond(0, field.most) {
			changes = append(changes, func(n *impl.Node) { field.set(n, to) })
		}
	}
	for _, bad := range badPlaces() {
		changes = append(changes, func(n *impl.Node) { n.Place = bad })
	}
	return changes
}

// badTrees returns trees of which something is not valid.
func badTrees() []impl.Tree {
	trees := []impl.Tree{{}, {Nodes: []impl.Node{}}, {Nodes: make([]impl.Node, 1)}, {Nodes: make([]impl.Node, 11)}}
	long := crowd()
	long.Nodes = append(long.Nodes, long.Nodes[9])
	trees = append(trees, long, tree(slices.Repeat(long.Nodes, 5)...))
	for _, change := range badOwns() {
		trees = append(trees, changedTree(tree(root), 0, change), changedTree(window(), 0, change), changedTree(window(), 4, change), changedTree(gridInGrid(), 1, change), changedTree(beyondAll(), 4, change))
	}
	for _, t := range []impl.Tree{tree(root), window(), gridInGrid(), chain(impl.KdPack, impl.KdGrid, impl.KdPlace)} {
		trees = append(trees, badParents(t)...)
		for i := range t.Nodes {
			trees = append(trees, badLinesIn(t, i)...)
		}
	}
	for _, bad := range badCells() {
		bad.W, bad.H = 0, 0
		trees = append(trees, badlyCelled(bad)...)
	}
	return trees
}

// badParents returns trees in which a node has no parent ahead of it, or the root has one.
func badParents(t impl.Tree) []impl.Tree {
	var trees []impl.Tree
	for i := range t.Nodes {
		bad := append(greatNumbers(), -2, i, i+1, len(t.Nodes)-1, len(t.Nodes), 10, 11)
		if i > 0 {
			bad = append(bad, -1)
		}
		for _, parent := range bad {
			if parent < 0 || parent >= i {
				trees = append(trees, changedTree(t, i, func(n *impl.Node) { n.Parent = parent }))
			}
		}
	}
	return trees
}

// badLinesIn returns trees in which a node has other lines than it can have.
func badLinesIn(t impl.Tree, i int) []impl.Tree {
	var trees []impl.Tree
	one := make([]impl.Line, 1)
	if t.Nodes[i].Kind != impl.KdGrid {
		for _, change := range []func(n *impl.Node){
			func(n *impl.Node) { n.Cols, n.Rows = one, one },
			func(n *impl.Node) { n.Cols = one },
			func(n *impl.Node) { n.Rows = one },
			func(n *impl.Node) { n.Kind = impl.KdGrid },
		} {
			trees = append(trees, changedTree(t, i, change))
		}
		return trees
	}
	for _, kind := range []int{impl.KdPack, impl.KdPlace} {
		trees = append(trees, changedTree(t, i, func(n *impl.Node) { n.Kind = kind }))
	}
	for _, bad := range badLines() {
		trees = append(trees, changedTree(t, i, func(n *impl.Node) { n.Cols = bad }), changedTree(t, i, func(n *impl.Node) { n.Rows = bad }))
	}
	return trees
}

// badlyCelled returns trees of grids of 3 columns and 2 rows of which a node is not in them as a cell says.
func badlyCelled(bad impl.Cell) []impl.Tree {
	if impl.ValidGrid(impl.Grid{Cols: make([]impl.Line, 3), Rows: make([]impl.Line, 2), Cells: []impl.Cell{bad}}) {
		return nil
	}
	grid := gridded(root, make([]impl.Line, 3), make([]impl.Line, 2))
	inner := grid
	inner.Parent = 1
	good := celled(0, 3, 4, alone(2, 1, 0, 0))
	return []impl.Tree{
		tree(grid, celled(0, 1, 2, bad)),
		tree(kept(grid), good, celled(0, 0, 0, bad), good),
		tree(root, leaf(0, 1, 1, item(impl.SdTop, 0, 0)), inner, celled(2, 30, 30, bad)),
	}
}

// treeSizes returns the sizes in which a tree is to be laid out: as great as it asks for, a little less and more, none, and as great as can be.
func treeSizes(t impl.Tree) []size {
	need := wantAsked(t, 0)
	sizes := []size{{0, 0}, {0, 400}, {400, 0}, {400, 400}, {17, 29}}
	for _, s := range []size{need, {need.w - 1, need.h - 1}, {need.w + 1, need.h}, {need.w / 2, need.h / 3}, {need.w + 21, need.h + 38}} {
		sizes = append(sizes, size{min(max(s.w, 0), 400), min(max(s.h, 0), 400)})
	}
	return sizes
}

// eachLayout calls a function with trees of all sorts in sizes of all sorts.
func eachLayout(do func(t impl.Tree, w, h int)) {
	for _, t := range goodTrees() {
		for _, s := range treeSizes(t) {
			do(t, s.w, s.h)
		}
	}
}

// eachAsking calls a function with trees of all sorts, each of their nodes, and sizes that this could ask for.
func eachAsking(trees []impl.Tree, do func(t impl.Tree, i, w, h int)) {
	for _, t := range trees {
		for i, n := range t.Nodes {
			for _, s := range []size{{n.W, n.H}, {n.W, 30}, {0, n.H}, {min(n.W+1, 30), n.H}, {n.W, max(n.H-1, 0)}, {30, 30}, {0, 0}} {
				do(t, i, s.w, s.h)
			}
		}
	}
}

// The functions below say what the document says, node by node, as directly as they can.

// kidsIn returns the kids of a node.
func kidsIn(t impl.Tree, i int) []int {
	var kids []int
	for k := i + 1; k < len(t.Nodes); k++ {
		if t.Nodes[k].Parent == i {
			kids = append(kids, k)
		}
	}
	return kids
}

// packsIn returns the kids of a node as items that ask for what these ask for.
func packsIn(t impl.Tree, i int) []impl.Pack {
	var list []impl.Pack
	for _, k := range kidsIn(t, i) {
		p, s := t.Nodes[k].Pack, wantAsked(t, k)
		p.W, p.H = s.w, s.h
		list = append(list, p)
	}
	return list
}

// gridIn returns the grid of a node, with cells that ask for what its kids ask for.
func gridIn(t impl.Tree, i int) impl.Grid {
	g := impl.Grid{Cols: t.Nodes[i].Cols, Rows: t.Nodes[i].Rows}
	for _, k := range kidsIn(t, i) {
		c, s := t.Nodes[k].Cell, wantAsked(t, k)
		c.W, c.H = s.w, s.h
		g.Cells = append(g.Cells, c)
	}
	return g
}

// wantAsked returns the size that a node asks for.
func wantAsked(t impl.Tree, i int) size {
	n := t.Nodes[i]
	if n.Keep || len(kidsIn(t, i)) == 0 || n.Kind == impl.KdPlace {
		return size{n.W, n.H}
	}
	if n.Kind == impl.KdPack {
		w, h := wantRequest(packsIn(t, i))
		return size{w, h}
	}
	g := gridIn(t, i)
	return size{sumOf(wantRequests(g.Cols, colSpans(g))), sumOf(wantRequests(g.Rows, rowSpans(g)))}
}

// wantKids returns the rectangles of the kids of a node in one of a size.
func wantKids(t impl.Tree, i, w, h int) []impl.Rect {
	var rects []impl.Rect
	switch t.Nodes[i].Kind {
	case impl.KdPack:
		list := packsIn(t, i)
		parcels, _ := wantParcels(list, w, h)
		for n, p := range list {
			rects = append(rects, wantRect(p, parcels[n]))
		}
	case impl.KdGrid:
		rects = wantCells(gridIn(t, i), w, h)
	case impl.KdPlace:
		for _, k := range kidsIn(t, i) {
			rects = append(rects, wantPlaced(t.Nodes[k].Place, w, h))
		}
	}
	return rects
}

// wantLayout returns the rectangles of all nodes.
func wantLayout(t impl.Tree, w, h int) []impl.Rect {
	rects := []impl.Rect{rect(0, 0, w, h)}
	for i := 1; i < len(t.Nodes); i++ {
		parent := t.Nodes[i].Parent
		above := rects[parent]
		r := wantKids(t, parent, above.W, above.H)[slices.Index(kidsIn(t, parent), i)]
		rects = append(rects, rect(above.X+r.X, above.Y+r.Y, r.W, r.H))
	}
	return rects
}

// wantAsking returns a tree in which a node asks for another size.
func wantAsking(t impl.Tree, i, w, h int) impl.Tree {
	return changedTree(t, i, func(n *impl.Node) { n.W, n.H = w, h })
}

// wantTouched returns the nodes that ask for another size if one of them does.
func wantTouched(t impl.Tree, i, w, h int) []int {
	var list []int
	for n := range t.Nodes {
		if wantAsked(t, n) != wantAsked(wantAsking(t, i, w, h), n) {
			list = append(list, n)
		}
	}
	return list
}

// wantMoved returns the nodes that lie somewhere else if one of them asks for another size.
func wantMoved(t impl.Tree, i, wishW, wishH, w, h int) []int {
	before, after := wantLayout(t, w, h), wantLayout(wantAsking(t, i, wishW, wishH), w, h)
	var list []int
	for n := range before {
		if before[n] != after[n] {
			list = append(list, n)
		}
	}
	return list
}
