package tests

import (
	"slices"
	"testing"

	"loop.example/widgetroom/impl"
)

func TestTreeConstants(t *testing.T) {
	if impl.MaxNodes != 10 || impl.KdPack != 0 || impl.KdGrid != 1 || impl.KdPlace != 2 {
		t.Error("the constants are not those of the document")
	}
}

func TestValidTree(t *testing.T) {
	for _, tr := range goodTrees() {
		if !impl.ValidTree(tr) {
			t.Errorf("ValidTree(%+v) = false", tr)
		}
	}
	for _, tr := range badTrees() {
		if impl.ValidTree(tr) {
			t.Errorf("ValidTree(%+v) = true", tr)
		}
	}
}

// settling is a tree in a size, what its nodes ask for, and where they lie.
type settling struct {
	tree  impl.Tree
	asked []size
	w, h  int
	rects []impl.Rect
}

// settlings returns trees that are laid out, written out.
func settlings() []settling {
	ownSize := root
	ownSize.W, ownSize.H = 7, 12
	lines := []impl.Line{{Weight: 1, Min: 30}}
	return []settling{
		{tree(ownSize), []size{{7, 12}}, 400, 400, []impl.Rect{rect(0, 0, 400, 400)}},
		{tree(board(ownSize)), []size{{7, 12}}, 0, 0, []impl.Rect{rect(0, 0, 0, 0)}},
		// Without kids a node asks for its own size, whatever its lines need.
		{tree(gridded(ownSize, lines, lines)), []size{{7, 12}}, 1, 2, []impl.Rect{rect(0, 0, 1, 2)}},
		{window(), []size{{20, 15}, {14, 5}, {8, 4}, {6, 5}, {20, 10}, {0, 0}}, 40, 25,
			[]impl.Rect{rect(0, 0, 40, 25), rect(0, 0, 40, 5), rect(0, 0, 8, 4), rect(8, 0, 6, 5), rect(0, 5, 40, 20), rect(5, 14, 30, 3)}},
		{window(), []size{{20, 15}, {14, 5}, {8, 4}, {6, 5}, {20, 10}, {0, 0}}, 0, 0,
			[]impl.Rect{none, none, none, none, none, rect(-15, -1, 30, 3)}},
		// The second column is 4 wide; the first one has 9, and 7 more; in this the inner columns have 2 and 5, and 3 and 4 more.
		{gridInGrid(), []size{{13, 9}, {7, 4}, {4, 9}, {2, 3}, {5, 1}}, 20, 12,
			[]impl.Rect{rect(0, 0, 20, 12), rect(1, 2, 14, 8), rect(16, 1, 4, 9), rect(2, 2, 2, 3), rect(6, 5, 9, 1)}},
		// A node that keeps its size cuts its kids, and does not grow for them.
		{stiff(), []size{{10, 9}, {10, 9}, {20, 5}, {8, 8}}, 30, 30,
			[]impl.Rect{rect(0, 0, 30, 30), rect(10, 0, 10, 9), rect(10, 0, 10, 5), rect(10, 5, 8, 4)}},
		{beyondAll(), []size{{0, 0}, {30, 20}, {30, 20}, {0, 0}, {0, 0}}, 400, 300,
			[]impl.Rect{rect(0, 0, 400, 300), rect(-20, 10, 700, 150), rect(650, 10, 30, 150), rect(-20, 10, 670, 150), rect(-320, -290, 970, 450)}},
		{wideGrids(), []size{{630, 30}, {150, 6}, {150, 6}, {150, 6}, {150, 6}, {7, 6}, {7, 6}, {7, 6}, {7, 6}}, 400, 30,
			[]impl.Rect{rect(0, 0, 400, 30), rect(0, 12, 92, 6), rect(92, 12, 92, 6), rect(184, 12, 93, 6), rect(277, 12, 93, 6),
				rect(71, 12, 7, 6), rect(178, 12, 7, 6), rect(285, 12, 7, 6), rect(393, 12, 7, 6)}},
		{mixedOrder(), []size{{11, 10}, {4, 6}, {2, 10}, {3, 1}, {2, 4}, {5, 5}, {4, 2}, {1, 6}, {2, 3}}, 11, 10,
			[]impl.Rect{rect(0, 0, 11, 10), rect(0, 2, 4, 6), rect(4, 0, 2, 10), rect(0, 2, 3, 1), rect(4, 0, 2, 4), rect(6, 2, 5, 5), rect(0, 3, 4, 2), rect(4, 4, 1, 6), rect(0, 5, 2, 3)}},
	}
}

func TestSettlingExamples(t *testing.T) {
	for _, c := range settlings() {
		for i, want := range c.asked {
			if w, h := impl.RequestOf(c.tree, i); w != want.w || h != want.h {
				t.Errorf("RequestOf(%+v, %d) = %d, %d, not %v", c.tree, i, w, h, want)
			}
		}
		if got := impl.LayoutTree(c.tree, c.w, c.h); !slices.Equal(got, c.rects) {
			t.Errorf("LayoutTree(%+v, %d, %d) = %v, not %v", c.tree, c.w, c.h, got, c.rects)
		}
	}
}

func TestMoreKidsThanInOnePacking(t *testing.T) {
	packed := crowd()
	if w, h := impl.RequestOf(packed, 0); w != 450 || h != 30 {
		t.Errorf("RequestOf(crowd, 0) = %d, %d", w, h)
	}
	want := []impl.Rect{rect(0, 0, 400, 40)}
	for i := range 8 {
		want = append(want, rect(10+50*i, 5, 30, 30))
	}
	want = append(want, rect(400, 5, 0, 30))
	if got := impl.LayoutTree(packed, 400, 40); !slices.Equal(got, want) {
		t.Errorf("LayoutTree(crowd, 400, 40) = %v, not %v", got, want)
	}
	// Those are more than can be packed without a tree.
	if w, h := impl.PackRequest(packsIn(packed, 0)); w != -1 || h != -1 || impl.PackRects(packsIn(packed, 0), 400, 40) != nil {
		t.Errorf("PackRequest of 9 items = %d, %d", w, h)
	}
}

func TestMoreKidsThanInOneGrid(t *testing.T) {
	grid := crowdedGrid()
	if w, h := impl.RequestOf(grid, 0); w != 24 || h != 18 {
		t.Errorf("RequestOf(crowdedGrid, 0) = %d, %d", w, h)
	}
	if got := impl.LayoutTree(grid, 24, 18); len(got) != 10 || got[1] != rect(3, 0, 1, 9) || got[5] != rect(8, 9, 5, 5) || got[9] != rect(15, 16, 9, 1) {
		t.Errorf("LayoutTree(crowdedGrid, 24, 18) = %v", got)
	}
	// Those are more than a grid can have without a tree.
	if w, h := impl.GridRequest(gridIn(grid, 0)); w != -1 || h != -1 || impl.GridRects(gridIn(grid, 0), 24, 18) != nil {
		t.Errorf("GridRequest of 9 cells = %d, %d", w, h)
	}
}

func TestRequestOf(t *testing.T) {
	great := 0
	for _, tr := range goodTrees() {
		for i := range tr.Nodes {
			want := wantAsked(tr, i)
			if w, h := impl.RequestOf(tr, i); w != want.w || h != want.h {
				t.Errorf("RequestOf(%+v, %d) = %d, %d, not %v", tr, i, w, h, want)
			}
			if want.w > 400 || want.h > 400 {
				great++
			}
		}
	}
	if great == 0 {
		t.Error("no node asks for more than a side can be")
	}
}

func TestLayoutTree(t *testing.T) {
	great, wrong := 0, 0
	eachLayout(func(tr impl.Tree, w, h int) {
		got, want := impl.LayoutTree(tr, w, h), wantLayout(tr, w, h)
		if wrong < 5 && !slices.Equal(got, want) {
			wrong++
			t.Errorf("LayoutTree(%+v, %d, %d) = %v, not %v", tr, w, h, got, want)
		}
		if slices.ContainsFunc(want, func(r impl.Rect) bool { return !impl.ValidRect(r) }) {
			great++
		}
	})
	if great == 0 {
		t.Error("no rectangle is beyond the limits")
	}
}

func TestAskForExamples(t *testing.T) {
	tr := window()
	got, ok := impl.AskFor(tr, 2, 9, 3)
	want := window()
	want.Nodes[2].W, want.Nodes[2].H = 9, 3
	if !ok || !sameTree(got, want) || !sameTree(tr, window()) {
		t.Errorf("AskFor(window, 2, 9, 3) = %+v, %v", got, ok)
	}
	if w, h := impl.RequestOf(got, 0); w != 20 || h != 15 {
		t.Errorf("RequestOf the root then = %d, %d", w, h)
	}
	// A node with kids has an own size too, which is not asked for.
	got, ok = impl.AskFor(tr, 1, 30, 0)
	if w, h := impl.RequestOf(got, 1); !ok || got.Nodes[1].W != 30 || got.Nodes[1].H != 0 || w != 14 || h != 5 {
		t.Errorf("AskFor(window, 1, 30, 0) = %+v, %v", got, ok)
	}
}

func TestAskFor(t *testing.T) {
	eachAsking(goodTrees(), func(tr impl.Tree, i, w, h int) {
		got, ok := impl.AskFor(tr, i, w, h)
		if want := wantAsking(tr, i, w, h); !ok || !sameTree(got, want) || !impl.ValidTree(got) {
			t.Errorf("AskFor(%+v, %d, %d, %d) = %+v, %v", tr, i, w, h, got, ok)
		}
	})
}

// asking is a node of a tree that asks for another size, which nodes this touches, and which nodes it moves in a size.
type asking struct {
	tree     impl.Tree
	i        int
	wish, in size
	touched  []int
	moved    []int
}

// askings returns nodes that ask for another size, written out.
func askings() []asking {
	kept2 := window()
	kept2.Nodes[1] = kept(kept2.Nodes[1])
	return []asking{
		{tree(root), 0, size{0, 0}, size{9, 9}, nil, nil},
		{tree(root), 0, size{0, 1}, size{9, 9}, []int{0}, nil},
		{window(), 2, size{8, 4}, size{40, 25}, nil, nil},
		// The board is wider than the bar.
		{window(), 2, size{9, 4}, size{40, 25}, []int{1, 2}, []int{2, 3}},
		// The other button is as high.
		{window(), 2, size{8, 5}, size{40, 25}, []int{2}, []int{2}},
		{window(), 2, size{8, 7}, size{40, 25}, []int{0, 1, 2}, []int{1, 2, 3, 4, 5}},
		{window(), 2, size{30, 4}, size{40, 25}, []int{0, 1, 2}, []int{2, 3}},
		{window(), 2, size{9, 4}, size{0, 25}, []int{1, 2}, nil},
		{window(), 4, size{20, 30}, size{40, 25}, []int{0, 4}, nil},
		// What is placed touches nothing above it, and what has kids is asked about these.
		{window(), 5, size{9, 9}, size{40, 25}, []int{5}, nil},
		{window(), 1, size{9, 9}, size{40, 25}, nil, nil},
		{window(), 0, size{30, 30}, size{40, 25}, nil, nil},
		// What keeps its size touches nothing above it if a kid asks, but if it asks itself.
		{kept2, 2, size{30, 30}, size{40, 25}, []int{2}, []int{2, 3}},
		{kept2, 1, size{1, 6}, size{40, 25}, []int{0, 1}, []int{1, 2, 3, 4, 5}},
		{kept2, 1, size{2, 2}, size{40, 25}, []int{1}, nil},
		{gridInGrid(), 3, size{2, 4}, size{20, 12}, []int{1, 3}, []int{3, 4}},
		{gridInGrid(), 3, size{3, 3}, size{20, 12}, []int{0, 1, 3}, []int{3}},
		// The first column gets 1 more, and of this the second one in it.
		{gridInGrid(), 2, size{2, 9}, size{20, 12}, []int{0, 2}, []int{1, 2, 4}},
	}
}

func TestAskingExamples(t *testing.T) {
	for _, c := range askings() {
		if got := impl.TouchedBy(c.tree, c.i, c.wish.w, c.wish.h); !slices.Equal(got, c.touched) {
			t.Errorf("TouchedBy(%+v, %d, %v) = %v, not %v", c.tree, c.i, c.wish, got, c.touched)
		}
		if got := impl.MovedBy(c.tree, c.i, c.wish.w, c.wish.h, c.in.w, c.in.h); !slices.Equal(got, c.moved) {
			t.Errorf("MovedBy(%+v, %d, %v, %v) = %v, not %v", c.tree, c.i, c.wish, c.in, got, c.moved)
		}
	}
}

func TestTouchedBy(t *testing.T) {
	eachAsking(goodTrees(), func(tr impl.Tree, i, w, h int) {
		if got, want := impl.TouchedBy(tr, i, w, h), wantTouched(tr, i, w, h); !slices.Equal(got, want) {
			t.Errorf("TouchedBy(%+v, %d, %d, %d) = %v, not %v", tr, i, w, h, got, want)
		}
	})
}

func TestMovedBy(t *testing.T) {
	some := 0
	eachAsking(goodTrees()[:400], func(tr impl.Tree, i, w, h int) {
		for _, in := range []size{{23, 31}, {200, 90}} {
			got, want := impl.MovedBy(tr, i, w, h, in.w, in.h), wantMoved(tr, i, w, h, in.w, in.h)
			if !slices.Equal(got, want) {
				t.Errorf("MovedBy(%+v, %d, %d, %d, %v) = %v, not %v", tr, i, w, h, in, got, want)
			}
			some += len(got)
		}
	})
	if some == 0 {
		t.Error("no node is moved")
	}
}

func TestNaturalLayoutExamples(t *testing.T) {
	want := []impl.Rect{rect(0, 0, 20, 15), rect(0, 0, 20, 5), rect(0, 0, 8, 4), rect(8, 0, 6, 5), rect(0, 5, 20, 10), rect(-5, 9, 30, 3)}
	if got := impl.NaturalLayout(window()); !slices.Equal(got, want) {
		t.Errorf("NaturalLayout(window) = %v, not %v", got, want)
	}
	want = []impl.Rect{rect(0, 0, 13, 9), rect(1, 2, 7, 5), rect(9, 0, 4, 9), rect(1, 2, 2, 3), rect(3, 5, 5, 1)}
	if got := impl.NaturalLayout(gridInGrid()); !slices.Equal(got, want) {
		t.Errorf("NaturalLayout(gridInGrid) = %v, not %v", got, want)
	}
	if got := impl.NaturalLayout(tree(root)); !slices.Equal(got, []impl.Rect{none}) {
		t.Errorf("NaturalLayout of nothing = %v", got)
	}
}

// fullTree returns a tree whose root needs 400 in one direction, and as much more as the last node asks for.
func fullTree(side, more int) impl.Tree {
	t := tree(root)
	p := impl.Pack{Side: side, PadX: 10, PadY: 10}
	for range 8 {
		t.Nodes = append(t.Nodes, leaf(0, 30, 30, p))
	}
	t.Nodes = append(t.Nodes, leaf(0, more, more, impl.Pack{Side: side}))
	return t
}

func TestNaturalLayoutAtTheLimit(t *testing.T) {
	for side, want := range []impl.Rect{rect(0, 0, 50, 400), rect(0, 0, 50, 400), rect(0, 0, 400, 50), rect(0, 0, 400, 50)} {
		if got := impl.NaturalLayout(fullTree(side, 0)); len(got) != 10 || got[0] != want {
			t.Errorf("NaturalLayout with %d = %v", side, got)
		}
		if got := impl.NaturalLayout(fullTree(side, 1)); got != nil {
			t.Errorf("NaturalLayout with %d, and 1 more = %v", side, got)
		}
	}
	for _, tr := range []impl.Tree{crowd(), wideGrids()} {
		if got := impl.NaturalLayout(tr); got != nil {
			t.Errorf("NaturalLayout(%+v) = %v", tr, got)
		}
	}
}

func TestNaturalLayout(t *testing.T) {
	for _, tr := range goodTrees() {
		var want []impl.Rect
		if s := wantAsked(tr, 0); s.w <= 400 && s.h <= 400 {
			want = wantLayout(tr, s.w, s.h)
		}
		if got := impl.NaturalLayout(tr); !slices.Equal(got, want) || (got == nil) != (want == nil) {
			t.Errorf("NaturalLayout(%+v) = %v, not %v", tr, got, want)
		}
	}
}

// wantNoAsking checks that a node cannot ask for a size.
func wantNoAsking(t *testing.T, tr impl.Tree, i, w, h int) {
	t.Helper()
	after, ok := impl.AskFor(tr, i, w, h)
	touched, moved := impl.TouchedBy(tr, i, w, h), impl.MovedBy(tr, i, w, h, 30, 20)
	if ok || after.Nodes != nil || touched != nil || moved != nil {
		t.Errorf("%+v, %d, %d, %d: %+v, %v, %v, %v", tr, i, w, h, after, ok, touched, moved)
	}
}

func TestTreesInvalid(t *testing.T) {
	for _, tr := range badTrees() {
		for _, i := range []int{0, 1, len(tr.Nodes) - 1} {
			if w, h := impl.RequestOf(tr, i); w != -1 || h != -1 {
				t.Errorf("RequestOf(%+v, %d) = %d, %d", tr, i, w, h)
			}
			wantNoAsking(t, tr, i, 3, 4)
		}
		if got, natural := impl.LayoutTree(tr, 30, 20), impl.NaturalLayout(tr); got != nil || natural != nil {
			t.Errorf("LayoutTree(%+v, 30, 20) = %v, and NaturalLayout = %v", tr, got, natural)
		}
	}
}

func TestTreesInvalidArguments(t *testing.T) {
	for _, tr := range edgeTrees() {
		last := len(tr.Nodes) - 1
		for _, i := range beyond(0, last) {
			if w, h := impl.RequestOf(tr, i); w != -1 || h != -1 {
				t.Errorf("RequestOf(%+v, %d) = %d, %d", tr, i, w, h)
			}
			wantNoAsking(t, tr, i, 3, 4)
		}
		for _, n := range beyond(0, 30) {
			wantNoAsking(t, tr, last, n, 4)
			wantNoAsking(t, tr, last, 4, n)
			wantNoAsking(t, tr, 0, n, n)
		}
		for _, s := range badSizes() {
			if got := impl.LayoutTree(tr, s.w, s.h); got != nil {
				t.Errorf("LayoutTree(%+v, %v) = %v", tr, s, got)
			}
			if got := impl.MovedBy(tr, last, 30, 30, s.w, s.h); got != nil {
				t.Errorf("MovedBy(%+v, %d, 30, 30, %v) = %v", tr, last, s, got)
			}
		}
	}
}

func TestTreesAtTheLimits(t *testing.T) {
	tr := fullTree(impl.SdLeft, 30)
	if w, h := impl.RequestOf(tr, 9); !impl.ValidTree(tr) || w != 30 || h != 30 {
		t.Errorf("RequestOf the tenth node = %d, %d", w, h)
	}
	if got := impl.LayoutTree(tr, 400, 400); len(got) != 10 || got[0] != rect(0, 0, 400, 400) || got[8] != rect(360, 10, 30, 30) || got[9] != rect(400, 0, 0, 30) {
		t.Errorf("LayoutTree of 10 nodes = %v", got)
	}
	if _, ok := impl.AskFor(tr, 9, 0, 30); !ok || len(impl.TouchedBy(tr, 9, 0, 30)) != 2 {
		t.Error("AskFor of the tenth node")
	}
	more := tree(append(slices.Clone(tr.Nodes), tr.Nodes[9])...)
	if impl.ValidTree(more) || impl.LayoutTree(more, 400, 400) != nil || impl.NaturalLayout(more) != nil {
		t.Error("11 nodes are valid")
	}
	wantNoAsking(t, more, 10, 1, 1)
}

// sharingTree returns a tree whose nodes share all of their lines, which have more memory behind them.
func sharingTree() (impl.Tree, []impl.Line, []impl.Node) {
	lines := []impl.Line{{Weight: 1}, {Weight: 2, Min: 3}, {Weight: 9, Min: -9}, {Min: 77}}
	nodes := gridInGrid().Nodes
	for i := range 2 {
		nodes[i].Cols, nodes[i].Rows = lines[:2], lines[:2]
	}
	nodes[2].Cols, nodes[3].Rows = lines[:0], lines[1:1]
	all := append(slices.Clone(nodes), impl.Node{Parent: 99}, impl.Node{W: -1})
	return impl.Tree{Nodes: all[:len(nodes)]}, lines, all
}

func TestTreesAreNotChanged(t *testing.T) {
	tr, lines, all := sharingTree()
	beforeLines, before := slices.Clone(lines), slices.Clone(all)
	for i := range tr.Nodes {
		impl.RequestOf(tr, i)
		impl.AskFor(tr, i, 30, 29)
		wantFresh(t, "TouchedBy", -77, func() []int { return impl.TouchedBy(tr, i, 30, 29) })
		wantFresh(t, "MovedBy", -77, func() []int { return impl.MovedBy(tr, i, 30, 29, 90, 80) })
	}
	wantFresh(t, "LayoutTree", dirty, func() []impl.Rect { return impl.LayoutTree(tr, 90, 80) })
	wantFresh(t, "NaturalLayout", dirty, func() []impl.Rect { return impl.NaturalLayout(tr) })
	if !impl.ValidTree(tr) || !slices.Equal(lines, beforeLines) || !sameTree(impl.Tree{Nodes: all}, impl.Tree{Nodes: before}) {
		t.Errorf("%v, %+v have become %v, %+v", beforeLines, before, lines, all)
	}
}

// linesIn returns the columns and the rows of all nodes of a tree.
func linesIn(t impl.Tree) [][]impl.Line {
	var all [][]impl.Line
	for _, n := range t.Nodes {
		all = append(all, n.Cols, n.Rows)
	}
	return all
}

func TestAskForSharesNoMemory(t *testing.T) {
	tr, lines, all := sharingTree()
	beforeLines, before := slices.Clone(lines), slices.Clone(all)
	got, _ := impl.AskFor(tr, 3, 8, 9)
	other, _ := impl.AskFor(tr, 3, 8, 9)
	for _, own := range linesIn(got) {
		for n := range own {
			own[n].Min += 5
		}
		_ = append(own, impl.Line{Min: 88})
	}
	_ = append(got.Nodes, impl.Node{Parent: 88})
	// Lines that share memory would be greater by 5 for each time that they stand there.
	for k, own := range linesIn(got) {
		for n, l := range own {
			if l.Min != linesIn(other)[k][n].Min+5 {
				t.Errorf("lines of %+v share memory", got)
			}
		}
	}
	got.Nodes[0].W = 17
	if !slices.Equal(lines, beforeLines) || !sameTree(impl.Tree{Nodes: all}, impl.Tree{Nodes: before}) {
		t.Errorf("%v, %+v have become %v, %+v", beforeLines, before, lines, all)
	}
	for i := range lines {
		lines[i].Min += 7
	}
	all[0].W = 18
	want, _, _ := sharingTree()
	want.Nodes[3].W, want.Nodes[3].H = 8, 9
	if !sameTree(other, want) {
		t.Errorf("AskFor has become %+v, not %+v", other, want)
	}
}
