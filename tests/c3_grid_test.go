package tests

import (
	"math"
	"slices"
	"testing"

	"loop.example/widgetroom/impl"
)

func TestGridConstants(t *testing.T) {
	if impl.MaxWeight != 5 || impl.MaxLines != 5 || impl.MaxCells != 8 {
		t.Error("the limits are not those of the document")
	}
}

func TestSpreadByExamples(t *testing.T) {
	for _, c := range []struct {
		n       int
		weights []int
		want    []int
	}{
		{0, []int{0}, []int{0}},
		{400, []int{0}, []int{400}},
		{400, []int{5}, []int{400}},
		{0, []int{1, 2}, []int{0, 0}},
		// Without weights all is for the last one.
		{7, []int{0, 0}, []int{0, 7}},
		{400, []int{0, 0, 0, 0, 0}, []int{0, 0, 0, 0, 400}},
		// What the division leaves is for the first ones with a weight.
		{10, []int{1, 0, 2}, []int{4, 0, 6}},
		{2, []int{0, 1, 1, 1}, []int{0, 1, 1, 0}},
		{1, []int{0, 0, 3, 0}, []int{0, 0, 1, 0}},
		{1, []int{1, 5}, []int{1, 0}},
		{5, []int{1, 5}, []int{1, 4}},
		{4, []int{5, 5, 5, 5, 5}, []int{1, 1, 1, 1, 0}},
		{9, []int{0, 2, 0, 5, 0}, []int{0, 3, 0, 6, 0}},
		{399, []int{1, 2}, []int{133, 266}},
		{400, []int{5, 4, 3, 2, 1}, []int{134, 107, 80, 53, 26}},
	} {
		if got := impl.SpreadBy(c.n, c.weights); !slices.Equal(got, c.want) {
			t.Errorf("SpreadBy(%d, %v) = %v, not %v", c.n, c.weights, got, c.want)
		}
	}
}

func TestSpreadBy(t *testing.T) {
	for _, weights := range goodWeights() {
		for _, n := range []int{0, 1, 2, 3, 4, 5, 7, 12, 29, 100, 257, 399, 400} {
			if got, want := impl.SpreadBy(n, weights), wantParts(n, weights); !slices.Equal(got, want) {
				t.Errorf("SpreadBy(%d, %v) = %v, not %v", n, weights, got, want)
			}
		}
	}
}

func TestSpreadByInvalid(t *testing.T) {
	for _, weights := range badWeights() {
		for _, n := range []int{0, 1, 400} {
			if got := impl.SpreadBy(n, weights); got != nil {
				t.Errorf("SpreadBy(%d, %v) = %v", n, weights, got)
			}
		}
	}
	for _, n := range beyond(0, 400) {
		for _, weights := range [][]int{{0}, {1}, {5, 5, 5, 5, 5}, {0, 0}} {
			if got := impl.SpreadBy(n, weights); got != nil {
				t.Errorf("SpreadBy(%d, %v) = %v", n, weights, got)
			}
		}
	}
}

func TestLineRequestsExamples(t *testing.T) {
	one := []impl.Line{{Weight: 1}, {Weight: 1}, {Weight: 1}}
	for _, c := range []struct {
		lines []impl.Line
		spans []impl.Span
		want  []int
	}{
		{[]impl.Line{{}}, nil, []int{0}},
		{[]impl.Line{{Weight: 1, Min: 2}, {Weight: 3, Min: 30}, {}}, []impl.Span{}, []int{2, 30, 0}},
		{[]impl.Line{{Min: 30}}, []impl.Span{span(0, 1, 50)}, []int{50}},
		{[]impl.Line{{Min: 30}}, []impl.Span{span(0, 1, 29), span(0, 1, 31), span(0, 1, 30)}, []int{31}},
		// Without weights the last one of the span has what is missing.
		{make([]impl.Line, 3), []impl.Span{span(0, 3, 10)}, []int{0, 0, 10}},
		{make([]impl.Line, 3), []impl.Span{span(0, 2, 10)}, []int{0, 10, 0}},
		{[]impl.Line{{Weight: 1}, {}, {}, {Weight: 2}}, []impl.Span{span(1, 2, 7)}, []int{0, 0, 7, 0}},
		{[]impl.Line{{Weight: 1}, {}, {Weight: 2}}, []impl.Span{span(0, 3, 9)}, []int{3, 0, 6}},
		{[]impl.Line{{}, {Weight: 1}, {}}, []impl.Span{span(0, 3, 9)}, []int{0, 9, 0}},
		// Spans of fewer lines come first, and spans of as many in order.
		{one, []impl.Span{span(0, 2, 10), span(0, 1, 8)}, []int{9, 1, 0}},
		{one, []impl.Span{span(0, 3, 12), span(1, 2, 6), span(1, 1, 2)}, []int{2, 6, 4}},
		{one, []impl.Span{span(0, 2, 10), span(1, 2, 10)}, []int{5, 8, 2}},
		{one, []impl.Span{span(1, 2, 10), span(0, 2, 10)}, []int{3, 7, 5}},
		// The least sizes count.
		{[]impl.Line{{Weight: 1, Min: 3}, {Weight: 1, Min: 5}}, []impl.Span{span(0, 2, 8)}, []int{3, 5}},
		{[]impl.Line{{Weight: 1, Min: 3}, {Weight: 1, Min: 5}}, []impl.Span{span(0, 2, 0)}, []int{3, 5}},
		{[]impl.Line{{Weight: 1, Min: 3}, {Weight: 1, Min: 5}}, []impl.Span{span(0, 2, 9)}, []int{4, 5}},
		{slices.Repeat([]impl.Line{{Weight: 5, Min: 7}}, 5), []impl.Span{span(0, 5, 50)}, []int{10, 10, 10, 10, 10}},
	} {
		if got := impl.LineRequests(c.lines, c.spans); !slices.Equal(got, c.want) {
			t.Errorf("LineRequests(%v, %v) = %v, not %v", c.lines, c.spans, got, c.want)
		}
	}
}

func TestLineRequests(t *testing.T) {
	for _, l := range goodLayers() {
		if got, want := impl.LineRequests(l.lines, l.spans), wantRequests(l.lines, l.spans); !slices.Equal(got, want) {
			t.Errorf("LineRequests(%v, %v) = %v, not %v", l.lines, l.spans, got, want)
		}
	}
}

func TestLineSizesExamples(t *testing.T) {
	stops := layer{[]impl.Line{{Weight: 1, Min: 5}, {Weight: 1}, {Weight: 1}}, []impl.Span{span(0, 1, 8), span(1, 1, 10), span(2, 1, 10)}}
	rounds := layer{[]impl.Line{{Weight: 5}, {Weight: 1}, {Weight: 1}}, []impl.Span{span(0, 1, 4), span(1, 1, 20), span(2, 1, 20)}}
	stiff := layer{[]impl.Line{{}, {Weight: 1, Min: 2}}, []impl.Span{span(0, 1, 10), span(1, 1, 6)}}
	bare := layer{[]impl.Line{{Min: 1}, {}}, []impl.Span{span(0, 2, 7)}}
	for _, c := range []struct {
		of   layer
		room int
		want []int
	}{
		{stops, 28, []int{8, 10, 10}},
		{stops, 29, []int{9, 10, 10}},
		{stops, 33, []int{10, 12, 11}},
		{stops, 400, []int{132, 134, 134}},
		{stops, 27, []int{7, 10, 10}},
		// Of 18 that are missing the first one gives 3 of its 6, and so 3 are still missing.
		{stops, 10, []int{5, 2, 3}},
		{stops, 6, []int{5, 0, 1}},
		{stops, 5, []int{5, 0, 0}},
		{stops, 4, []int{5, 0, 0}},
		{stops, 0, []int{5, 0, 0}},
		{rounds, 20, []int{0, 10, 10}},
		{rounds, 19, []int{0, 9, 10}},
		{rounds, 0, []int{0, 0, 0}},
		// A line without a weight keeps what it asks for.
		{stiff, 16, []int{10, 6}},
		{stiff, 20, []int{10, 10}},
		{stiff, 13, []int{10, 3}},
		{stiff, 12, []int{10, 2}},
		{stiff, 11, []int{10, 2}},
		{stiff, 0, []int{10, 2}},
		{bare, 400, []int{1, 6}},
		{bare, 7, []int{1, 6}},
		{bare, 3, []int{1, 6}},
		{bare, 0, []int{1, 6}},
		{layer{[]impl.Line{{Weight: 1}}, nil}, 400, []int{400}},
		{layer{[]impl.Line{{Weight: 2, Min: 30}, {}, {Weight: 3, Min: 1}}, nil}, 41, []int{34, 0, 7}},
	} {
		if got := impl.LineSizes(c.of.lines, c.of.spans, c.room); !slices.Equal(got, c.want) {
			t.Errorf("LineSizes(%v, %v, %d) = %v, not %v", c.of.lines, c.of.spans, c.room, got, c.want)
		}
	}
}

func TestLineSizes(t *testing.T) {
	for _, l := range goodLayers() {
		need := sumOf(wantRequests(l.lines, l.spans))
		for _, room := range []int{0, 1, need / 5, need / 3, need / 2, need - 9, need - 2, need - 1, need, need + 1, need + 2, need + 37, 399, 400} {
			room = min(max(room, 0), 400)
			if got, want := impl.LineSizes(l.lines, l.spans, room), wantSizes(l.lines, l.spans, room); !slices.Equal(got, want) {
				t.Errorf("LineSizes(%v, %v, %d) = %v, not %v", l.lines, l.spans, room, got, want)
			}
		}
	}
}

func TestLinesInvalid(t *testing.T) {
	wantNone := func(lines []impl.Line, spans []impl.Span) {
		if got := impl.LineRequests(lines, spans); got != nil {
			t.Errorf("LineRequests(%v, %v) = %v", lines, spans, got)
		}
		for _, room := range []int{0, 10, 400} {
			if got := impl.LineSizes(lines, spans, room); got != nil {
				t.Errorf("LineSizes(%v, %v, %d) = %v", lines, spans, room, got)
			}
		}
	}
	for _, lines := range badLines() {
		wantNone(lines, nil)
		wantNone(lines, firstSpans(1, 5))
	}
	for many := 1; many <= 5; many++ {
		lines := slices.Repeat([]impl.Line{{Weight: 1, Min: 2}}, many)
		for _, spans := range badSpans(many) {
			wantNone(lines, spans)
		}
		for _, room := range beyond(0, 400) {
			if got := impl.LineSizes(lines, firstSpans(2, 9), room); got != nil {
				t.Errorf("LineSizes(%v, .., %d) = %v", lines, room, got)
			}
		}
	}
}

func TestValidGrid(t *testing.T) {
	for _, g := range goodGrids() {
		if !impl.ValidGrid(g) {
			t.Errorf("ValidGrid(%+v) = false", g)
		}
	}
	for _, g := range badGrids() {
		if impl.ValidGrid(g) {
			t.Errorf("ValidGrid(%+v) = true", g)
		}
	}
}

// gridding is a grid in a size, and what it gives.
type gridding struct {
	grid         impl.Grid
	needW, needH int
	w, h         int
	rects        []impl.Rect
}

// griddings returns grids that are laid out, written out.
func griddings() []gridding {
	bare, free := make([]impl.Line, 2), []impl.Line{{Weight: 1}, {Weight: 3}}
	pads := impl.Cell{ManyCols: 1, ManyRows: 1, W: 4, H: 1, PadX: 3, PadY: 2, Stick: 15}
	on := []impl.Cell{alone(0, 0, 3, 8), alone(0, 0, 7, 2), alone(0, 0, 0, 0)}
	several := []impl.Cell{broad(0, 0, 2, 1, 12, 2), alone(0, 1, 2, 3), broad(1, 0, 1, 2, 5, 9)}
	several[0].Stick, several[2].Stick = 3, 14
	least := impl.Grid{Cols: []impl.Line{{Weight: 1, Min: 4}, {Weight: 1, Min: 2}}, Rows: free[:1], Cells: []impl.Cell{alone(0, 0, 6, 5), alone(1, 0, 6, 6)}}
	return []gridding{
		{impl.Grid{Cols: bare, Rows: free}, 0, 0, 10, 10, nil},
		{impl.Grid{Cols: []impl.Line{{Min: 3}, {Min: 4}}, Rows: []impl.Line{{Min: 30}}}, 7, 30, 0, 0, nil},
		// Without weights the lines stay at the beginning, as great as they are asked to be.
		{impl.Grid{Cols: bare, Rows: bare, Cells: []impl.Cell{alone(1, 1, 5, 4), alone(0, 0, 2, 1)}}, 7, 5, 50, 60,
			[]impl.Rect{rect(2, 1, 5, 4), rect(0, 0, 2, 1)}},
		{impl.Grid{Cols: bare, Rows: bare, Cells: []impl.Cell{alone(1, 1, 5, 4), alone(0, 0, 2, 1)}}, 7, 5, 0, 0,
			[]impl.Rect{rect(2, 1, 5, 4), rect(0, 0, 2, 1)}},
		{impl.Grid{Cols: free, Rows: bare, Cells: []impl.Cell{alone(1, 0, 6, 2), alone(0, 1, 2, 3)}}, 8, 5, 16, 5,
			[]impl.Rect{rect(7, 0, 6, 2), rect(1, 2, 2, 3)}},
		// A cell lies on another one.
		{impl.Grid{Cols: free[:1], Rows: free[:1], Cells: on}, 7, 8, 7, 8, []impl.Rect{rect(2, 0, 3, 8), rect(0, 3, 7, 2), rect(3, 4, 0, 0)}},
		{impl.Grid{Cols: free[:1], Rows: free[:1], Cells: on}, 7, 8, 5, 4, []impl.Rect{rect(1, 0, 3, 4), rect(0, 1, 5, 2), rect(2, 2, 0, 0)}},
		// The columns need 2 and 5, and 2 and 3 more for the first cell; the rows need 2 and 3, and 1 and 3 more for the last cell.
		{impl.Grid{Cols: free, Rows: free, Cells: several}, 12, 9, 16, 13,
			[]impl.Rect{rect(0, 1, 16, 2), rect(1, 7, 2, 3), rect(11, 0, 5, 13)}},
		{impl.Grid{Cols: bare[:1], Rows: bare[:1], Cells: []impl.Cell{pads}}, 10, 5, 400, 400, []impl.Rect{rect(3, 2, 4, 1)}},
		{impl.Grid{Cols: free[:1], Rows: free[:1], Cells: []impl.Cell{pads}}, 10, 5, 5, 3, []impl.Rect{rect(2, 1, 0, 0)}},
		{impl.Grid{Cols: free[:1], Rows: free[:1], Cells: []impl.Cell{pads}}, 10, 5, 400, 400, []impl.Rect{rect(3, 2, 394, 396)}},
		// Least sizes hold where there is no room.
		{least, 12, 6, 0, 0, []impl.Rect{rect(0, 0, 4, 0), rect(4, 0, 2, 0)}},
		{least, 12, 6, 7, 3, []impl.Rect{rect(0, 0, 4, 3), rect(4, 0, 3, 3)}},
	}
}

func TestGriddingExamples(t *testing.T) {
	for _, c := range griddings() {
		if w, h := impl.GridRequest(c.grid); w != c.needW || h != c.needH {
			t.Errorf("GridRequest(%+v) = %d, %d, not %d, %d", c.grid, w, h, c.needW, c.needH)
		}
		if got := impl.GridRects(c.grid, c.w, c.h); !slices.Equal(got, c.rects) {
			t.Errorf("GridRects(%+v, %d, %d) = %v, not %v", c.grid, c.w, c.h, got, c.rects)
		}
	}
}

func TestGridRectsStick(t *testing.T) {
	// Inside the room around it a cell has 9 across from 1 on, and 6 down from 2 on.
	across := []stretch{{3, 4}, {1, 4}, {6, 4}, {1, 9}}
	down := []stretch{{3, 3}, {2, 3}, {5, 3}, {2, 6}}
	free := []impl.Line{{Weight: 1}}
	for stick := range 16 {
		g := impl.Grid{Cols: free, Rows: free, Cells: []impl.Cell{{ManyCols: 1, ManyRows: 1, W: 4, H: 3, Stick: stick, PadX: 1, PadY: 2}}}
		x, y := across[stick%4], down[stick/4]
		if got, want := impl.GridRects(g, 11, 10), rect(x.at, y.at, x.size, y.size); len(got) != 1 || got[0] != want {
			t.Errorf("GridRects with Stick %d = %v, not %v", stick, got, want)
		}
		// One that asks for more than there is has all of it.
		g.Cells[0].W, g.Cells[0].H = 30, 30
		if got := impl.GridRects(g, 11, 10); len(got) != 1 || got[0] != rect(1, 2, 9, 6) {
			t.Errorf("GridRects with Stick %d, asking for more = %v", stick, got)
		}
	}
}

func TestGridRequest(t *testing.T) {
	for _, g := range goodGrids() {
		wantW, wantH := sumOf(wantRequests(g.Cols, colSpans(g))), sumOf(wantRequests(g.Rows, rowSpans(g)))
		if w, h := impl.GridRequest(g); w != wantW || h != wantH {
			t.Errorf("GridRequest(%+v) = %d, %d, not %d, %d", g, w, h, wantW, wantH)
		}
	}
}

func TestGridRects(t *testing.T) {
	wrong := 0
	eachGrid(func(g impl.Grid, w, h int) {
		got, want := impl.GridRects(g, w, h), wantCells(g, w, h)
		if wrong < 5 && !slices.Equal(got, want) {
			wrong++
			t.Errorf("GridRects(%+v, %d, %d) = %v, not %v", g, w, h, got, want)
		}
	})
}

func TestGridRectsTurned(t *testing.T) {
	eachGrid(func(g impl.Grid, w, h int) {
		rects, over := impl.GridRects(g, w, h), impl.GridRects(turned(g), h, w)
		if len(rects) != len(over) {
			t.Fatalf("GridRects(%+v, %d, %d) = %v, and turned %v", g, w, h, rects, over)
		}
		for i, r := range rects {
			if over[i] != rect(r.Y, r.X, r.H, r.W) {
				t.Errorf("GridRects(%+v, %d, %d)[%d] = %v, and turned %v", g, w, h, i, r, over[i])
			}
		}
	})
}

func TestGridAtExamples(t *testing.T) {
	// The columns are 0, 4, 0 and 6 wide, and the rows 5 and 3 high.
	g := impl.Grid{Cols: []impl.Line{{}, {Min: 4}, {}, {Min: 6}}, Rows: []impl.Line{{Weight: 1, Min: 5}, {Min: 3}}}
	for _, c := range []struct{ x, y, col, row int }{
		{0, 0, 1, 0},
		{3, 4, 1, 0},
		{4, 5, 3, 1},
		{9, 7, 3, 1},
		{10, 7, -1, 1},
		{9, 8, 3, -1},
		{-1, 0, -1, 0},
		{0, -1, 1, -1},
		{-1, -1, -1, -1},
		{10, 8, -1, -1},
		{math.MaxInt, 0, -1, 0},
		{0, math.MinInt, 1, -1},
		{math.MinInt, math.MaxInt, -1, -1},
	} {
		// Lines that have no room are where they are, also beyond the size.
		for _, w := range []int{0, 10, 400} {
			for _, h := range []int{0, 8} {
				if col, row := impl.GridAt(g, w, h, c.x, c.y); col != c.col || row != c.row {
					t.Errorf("GridAt(g, %d, %d, %d, %d) = %d, %d, not %d, %d", w, h, c.x, c.y, col, row, c.col, c.row)
				}
			}
		}
	}
	if col, row := impl.GridAt(g, 400, 400, 0, 396); col != 1 || row != 0 {
		t.Errorf("GridAt in the row with a weight = %d, %d", col, row)
	}
	if col, row := impl.GridAt(g, 400, 400, 399, 397); col != -1 || row != 1 {
		t.Errorf("GridAt in the last row = %d, %d", col, row)
	}
}

func TestGridAt(t *testing.T) {
	wrong := 0
	eachGrid(func(g impl.Grid, w, h int) {
		cols, rows := wantSizes(g.Cols, colSpans(g), w), wantSizes(g.Rows, rowSpans(g), h)
		places := []int{math.MinInt, -1, 0, 1, 399, 400, 1000, math.MaxInt}
		for _, sizes := range [][]int{cols, rows} {
			for i := range sizes {
				end := sumOf(sizes[:i+1])
				places = append(places, end-1, end)
			}
		}
		for i, x := range places {
			y := places[len(places)-1-i]
			if col, row := impl.GridAt(g, w, h, x, y); wrong < 5 && (col != wantLine(cols, x) || row != wantLine(rows, y)) {
				wrong++
				t.Errorf("GridAt(%+v, %d, %d, %d, %d) = %d, %d", g, w, h, x, y, col, row)
			}
		}
	})
}

// wantNoGrid checks that a grid is not laid out.
func wantNoGrid(t *testing.T, g impl.Grid, w, h int) {
	t.Helper()
	if got := impl.GridRects(g, w, h); got != nil {
		t.Errorf("GridRects(%+v, %d, %d) = %v", g, w, h, got)
	}
	if col, row := impl.GridAt(g, w, h, 0, 0); col != -1 || row != -1 {
		t.Errorf("GridAt(%+v, %d, %d, 0, 0) = %d, %d", g, w, h, col, row)
	}
}

func TestGridsInvalid(t *testing.T) {
	for _, g := range badGrids() {
		if w, h := impl.GridRequest(g); w != -1 || h != -1 {
			t.Errorf("GridRequest(%+v) = %d, %d", g, w, h)
		}
		wantNoGrid(t, g, 0, 0)
		wantNoGrid(t, g, 50, 60)
		wantNoGrid(t, g, 400, 400)
	}
	for _, g := range edgeGrids() {
		for _, n := range beyond(0, 400) {
			wantNoGrid(t, g, n, 10)
			wantNoGrid(t, g, 10, n)
			wantNoGrid(t, g, n, n)
		}
	}
}

func TestGridsAtTheLimits(t *testing.T) {
	lines := slices.Repeat([]impl.Line{{Weight: 5, Min: 30}}, impl.MaxLines)
	var cells []impl.Cell
	for i := range impl.MaxCells {
		cells = append(cells, impl.Cell{Col: i % 5, Row: (i + 1) % 5, ManyCols: 1, ManyRows: 1, W: 30, H: 30, Stick: 10, PadX: 10, PadY: 10})
	}
	g := impl.Grid{Cols: lines, Rows: lines, Cells: cells}
	if w, h := impl.GridRequest(g); w != 250 || h != 250 {
		t.Errorf("GridRequest of the greatest grid = %d, %d", w, h)
	}
	if got := impl.GridRects(g, 400, 400); len(got) != 8 || got[0] != rect(40, 120, 30, 30) || got[3] != rect(280, 360, 30, 30) {
		t.Errorf("GridRects of the greatest grid = %v", got)
	}
	if got := impl.GridRects(g, 0, 0); len(got) != 8 || got[3] != rect(100, 130, 10, 10) {
		t.Errorf("GridRects of the greatest grid in no room = %v", got)
	}
	if col, row := impl.GridAt(g, 0, 400, 149, 399); col != 4 || row != 4 {
		t.Errorf("GridAt of the greatest grid = %d, %d", col, row)
	}
	for _, bad := range []impl.Grid{{Cols: append(lines, impl.Line{}), Rows: lines}, {Cols: lines, Rows: append(lines, impl.Line{})}, {Cols: lines, Rows: lines, Cells: append(cells, alone(0, 0, 0, 0))}} {
		if w, h := impl.GridRequest(bad); w != -1 || h != -1 || impl.ValidGrid(bad) {
			t.Errorf("GridRequest of one more = %d, %d", w, h)
		}
		wantNoGrid(t, bad, 400, 400)
	}
}

// wantFresh checks that what a call returns is new memory each time.
func wantFresh[E comparable](t *testing.T, what string, dirty E, call func() []E) {
	t.Helper()
	got := call()
	want := slices.Clone(got)
	for i := range got {
		got[i] = dirty
	}
	_ = append(got, dirty)
	if again := call(); !slices.Equal(again, want) {
		t.Errorf("%s is %v, and then %v", what, want, again)
	}
}

func TestLinesShareNoMemory(t *testing.T) {
	for _, l := range goodLayers() {
		spareLines, spareSpans := append(slices.Clone(l.lines), impl.Line{Weight: 9, Min: -9}), append(slices.Clone(l.spans), impl.Span{At: -9})
		lines, spans := spareLines[:len(l.lines)], spareSpans[:len(l.spans)]
		spareWeights := append(weightsOf(lines), 5, 5)
		weights := spareWeights[:len(lines)]
		beforeLines, beforeSpans, beforeWeights := slices.Clone(spareLines), slices.Clone(spareSpans), slices.Clone(spareWeights)
		wantFresh(t, "SpreadBy", -77, func() []int { return impl.SpreadBy(17, weights) })
		wantFresh(t, "LineRequests", -77, func() []int { return impl.LineRequests(lines, spans) })
		for _, room := range []int{0, 30, 400} {
			wantFresh(t, "LineSizes", -77, func() []int { return impl.LineSizes(lines, spans, room) })
		}
		if !slices.Equal(spareLines, beforeLines) || !slices.Equal(spareSpans, beforeSpans) || !slices.Equal(spareWeights, beforeWeights) {
			t.Errorf("%v, %v have become %v, %v", beforeLines, beforeSpans, spareLines, spareSpans)
		}
	}
}

func TestGridsShareNoMemory(t *testing.T) {
	for _, whole := range goodGrids() {
		cols, rows, cells := append(slices.Clone(whole.Cols), impl.Line{Weight: -1}), append(slices.Clone(whole.Rows), impl.Line{Min: 31}), append(slices.Clone(whole.Cells), impl.Cell{})
		g := impl.Grid{Cols: cols[:len(whole.Cols)], Rows: rows[:len(whole.Rows)], Cells: cells[:len(whole.Cells)]}
		beforeCols, beforeRows, beforeCells := slices.Clone(cols), slices.Clone(rows), slices.Clone(cells)
		for _, n := range []int{0, 30, 400} {
			wantFresh(t, "GridRects", dirty, func() []impl.Rect { return impl.GridRects(g, n, 400-n) })
			impl.GridAt(g, n, n, n/2, n/3)
		}
		impl.GridRequest(g)
		impl.ValidGrid(g)
		if !slices.Equal(cols, beforeCols) || !slices.Equal(rows, beforeRows) || !slices.Equal(cells, beforeCells) {
			t.Errorf("%v, %v, %v have become %v, %v, %v", beforeCols, beforeRows, beforeCells, cols, rows, cells)
		}
	}
}
