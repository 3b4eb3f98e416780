package tests

import (
	"math"
	"slices"

	"loop.example/widgetroom/impl"
)

// sumOf returns all numbers of a list together.
func sumOf(list []int) int {
	all := 0
	for _, n := range list {
		all += n
	}
	return all
}

// weightsOf returns the weights of lines.
func weightsOf(lines []impl.Line) []int {
	var list []int
	for _, l := range lines {
		list = append(list, l.Weight)
	}
	return list
}

// minsOf returns the least sizes of lines.
func minsOf(lines []impl.Line) []int {
	var list []int
	for _, l := range lines {
		list = append(list, l.Min)
	}
	return list
}

// goodWeights returns weights of all sorts, for 1..5 lines.
func goodWeights() [][]int {
	var lists [][]int
	for a := range 6 {
		lists = append(lists, []int{a})
		for b := range 6 {
			lists = append(lists, []int{a, b})
			for c := range 6 {
				lists = append(lists, []int{a, b, c}, []int{a, 0, b, c}, []int{0, a, b, 0, c}, []int{c, a, 5, 1, b})
			}
		}
	}
	return append(lists, []int{0, 0, 0, 0}, []int{0, 0, 0, 0, 0}, []int{5, 5, 5, 5}, []int{5, 5, 5, 5, 5}, []int{1, 1, 1, 1, 1})
}

// badWeights returns lists that are not the weights of lines.
func badWeights() [][]int {
	lists := [][]int{nil, {}, make([]int, 6), {1, 1, 1, 1, 1, 1}, make([]int, 50)}
	for _, n := range beyond(0, 5) {
		lists = append(lists, []int{n}, []int{n, 1}, []int{0, n, 0}, []int{5, 5, 5, 5, n})
	}
	return lists
}

// span returns a span.
func span(at, many, need int) impl.Span {
	return impl.Span{At: at, Many: many, Need: need}
}

// layer is a list of lines with spans.
type layer struct {
	lines []impl.Line
	spans []impl.Span
}

// edgeLayers returns layers that the document names: without spans, without weights, and at the limits.
func edgeLayers() []layer {
	full := slices.Repeat([]impl.Line{{Weight: 5, Min: 30}}, 5)
	bare := make([]impl.Line, 5)
	free := slices.Repeat([]impl.Line{{Weight: 1}}, 5)
	half := []impl.Line{{Min: 3}, {Weight: 2, Min: 1}, {}, {Weight: 1}, {Min: 30}}
	var every, wide []impl.Span
	for at := range 5 {
		every = append(every, impl.Span{At: at, Many: 1, Need: 50})
		wide = append(wide, impl.Span{At: 0, Many: 5 - at, Need: 50}, impl.Span{At: at, Many: 5 - at, Need: 7 * at})
	}
	wide = wide[:8]
	var layers []layer
	for _, lines := range [][]impl.Line{full, bare, free, half} {
		layers = append(layers, layer{lines, nil}, layer{lines, every}, layer{lines, wide}, layer{lines, firstSpans(8, 0)}, layer{lines, firstSpans(8, 50)})
	}
	return append(layers, layer{bare[:1], nil}, layer{bare[:1], firstSpans(1, 0)}, layer{full[:1], firstSpans(1, 50)}, layer{free[:1], firstSpans(3, 9)})
}

// firstSpans returns spans of the first line alone.
func firstSpans(many, need int) []impl.Span {
	return slices.Repeat([]impl.Span{{At: 0, Many: 1, Need: need}}, many)
}

// mixedLines returns lines of all sorts.
func mixedLines(r *row, many int) []impl.Line {
	mostWeight, mostMin := []int{0, 1, 5}[r.upTo(2)], []int{0, 6, 30}[r.upTo(2)]
	lines := make([]impl.Line, many)
	for i := range lines {
		lines[i] = impl.Line{Weight: r.upTo(mostWeight), Min: r.upTo(mostMin)}
	}
	return lines
}

// mixedLayers returns layers of all sorts.
func mixedLayers() []layer {
	var layers []layer
	r := &row{}
	for n := range 2500 {
		lines := mixedLines(r, n%5+1)
		mostNeed := []int{10, 30, 50}[r.upTo(2)]
		spans := make([]impl.Span, r.upTo(8))
		for i := range spans {
			at := r.upTo(len(lines) - 1)
			spans[i] = impl.Span{At: at, Many: 1 + r.upTo(len(lines)-at-1), Need: r.upTo(mostNeed)}
		}
		layers = append(layers, layer{lines, spans})
	}
	return layers
}

// goodLayers returns layers of all sorts, also those at the limits.
func goodLayers() []layer {
	return append(edgeLayers(), mixedLayers()...)
}

// badLines returns lists that are not the columns or the rows of a grid.
func badLines() [][]impl.Line {
	lists := [][]impl.Line{nil, {}, make([]impl.Line, 6), slices.Repeat([]impl.Line{{Weight: 1, Min: 1}}, 6), make([]impl.Line, 50)}
	for _, n := range beyond(0, 5) {
		lists = append(lists, []impl.Line{{Weight: n}}, []impl.Line{{}, {Weight: n, Min: 30}}, []impl.Line{{Weight: n}, {}, {}, {}, {}})
	}
	for _, n := range beyond(0, 30) {
		lists = append(lists, []impl.Line{{Min: n}}, []impl.Line{{}, {Weight: 5, Min: n}}, []impl.Line{{Min: n}, {}, {}, {}, {}})
	}
	return lists
}

// run is the first line of some, and how many they are.
type run struct{ at, many int }

// badRuns returns runs that are not of some of the lines.
func badRuns(lines int) []run {
	list := []run{{0, 0}, {0, -1}, {0, lines + 1}, {1, lines}, {lines - 1, 2}, {lines - 1, 0}, {lines, 0}, {lines, 1}, {lines + 1, -1}, {-1, 1}, {-1, 2}, {-1, lines + 1}}
	for _, n := range greatNumbers() {
		list = append(list, run{0, n}, run{n, 1}, run{lines - 1, n}, run{n, n})
	}
	// The sum of each of these wraps around, or comes back, to a number of lines.
	return append(list, run{math.MinInt, math.MinInt}, run{math.MinInt, math.MinInt + 1}, run{math.MaxInt, math.MinInt + 2}, run{math.MinInt + 1, math.MaxInt}, run{1 << 62, -1<<62 + 1}, run{-1 << 62, 1<<62 + 1}, run{-3, 4})
}

// badSpans returns lists that are not spans of some lines.
func badSpans(lines int) [][]impl.Span {
	lists := [][]impl.Span{firstSpans(9, 0), firstSpans(9, 5), firstSpans(50, 1)}
	around := func(s impl.Span) {
		good := impl.Span{At: lines - 1, Many: 1, Need: 7}
		lists = append(lists, []impl.Span{s}, []impl.Span{good, s, good}, append(firstSpans(7, 3), s))
	}
	for _, b := range badRuns(lines) {
		around(impl.Span{At: b.at, Many: b.many, Need: 5})
	}
	for _, n := range beyond(0, 50) {
		around(impl.Span{At: 0, Many: lines, Need: n})
	}
	return lists
}

// alone returns a cell of one column and one row.
func alone(col, row, w, h int) impl.Cell {
	return impl.Cell{Col: col, Row: row, ManyCols: 1, ManyRows: 1, W: w, H: h}
}

// broad returns a cell of several columns and rows.
func broad(col, row, cols, rows, w, h int) impl.Cell {
	return impl.Cell{Col: col, Row: row, ManyCols: cols, ManyRows: rows, W: w, H: h}
}

// edgeGrids returns grids that the document names: without cells, with cells on each other, and at the limits.
func edgeGrids() []impl.Grid {
	full := slices.Repeat([]impl.Line{{Weight: 5, Min: 30}}, 5)
	bare := make([]impl.Line, 5)
	free := []impl.Line{{Weight: 1}, {Weight: 2}, {}}
	great := impl.Cell{ManyCols: 1, ManyRows: 1, W: 30, H: 30, Stick: 15, PadX: 10, PadY: 10}
	last := great
	last.Col, last.Row, last.Stick = 4, 4, 10
	whole := broad(0, 0, 5, 5, 30, 30)
	diagonal := []impl.Cell{whole, last}
	for i := range 5 {
		diagonal = append(diagonal, alone(i, 4-i, 30, 3*i))
	}
	on := []impl.Cell{alone(1, 1, 9, 4), alone(1, 1, 3, 8), broad(0, 0, 3, 3, 20, 20), broad(1, 0, 1, 2, 2, 2), broad(0, 1, 2, 1, 30, 1)}
	return []impl.Grid{
		{Cols: bare[:1], Rows: bare[:1]},
		{Cols: free, Rows: full},
		{Cols: bare, Rows: free[:2], Cells: []impl.Cell{}},
		{Cols: full, Rows: full, Cells: slices.Repeat([]impl.Cell{great}, 8)},
		{Cols: bare, Rows: bare, Cells: slices.Repeat([]impl.Cell{last}, 8)},
		{Cols: full, Rows: bare, Cells: diagonal},
		{Cols: bare, Rows: full, Cells: diagonal},
		{Cols: free, Rows: free, Cells: on},
		{Cols: bare[:3], Rows: free, Cells: on},
		{Cols: free[:1], Rows: bare[:1], Cells: []impl.Cell{{ManyCols: 1, ManyRows: 1}, great, alone(0, 0, 0, 0)}},
	}
}

// mixedCell returns a cell of some of the columns and rows.
func mixedCell(r *row, cols, rows, mostWish, mostPad int) impl.Cell {
	c := impl.Cell{Col: r.upTo(cols - 1), Row: r.upTo(rows - 1), W: r.upTo(mostWish), H: r.upTo(mostWish), Stick: r.upTo(15), PadX: r.upTo(mostPad), PadY: r.upTo(mostPad)}
	c.ManyCols, c.ManyRows = 1, 1
	if r.yes() {
		c.ManyCols += r.upTo(cols - c.Col - 1)
		c.ManyRows += r.upTo(rows - c.Row - 1)
	}
	return c
}

// mixedGrids returns grids of all sorts.
func mixedGrids() []impl.Grid {
	var grids []impl.Grid
	r := &row{}
	for n := range 1200 {
		g := impl.Grid{Cols: mixedLines(r, n%5+1), Rows: mixedLines(r, n/5%5+1)}
		mostWish, mostPad := []int{5, 12, 30}[r.upTo(2)], []int{0, 3, 10}[r.upTo(2)]
		for range r.upTo(8) {
			g.Cells = append(g.Cells, mixedCell(r, len(g.Cols), len(g.Rows), mostWish, mostPad))
		}
		grids = append(grids, g)
	}
	return grids
}

// goodGrids returns valid grids of all sorts.
func goodGrids() []impl.Grid {
	return append(edgeGrids(), mixedGrids()...)
}

// badCells returns cells that are not of a grid of 3 columns and 2 rows.
func badCells() []impl.Cell {
	var list []impl.Cell
	for _, b := range badRuns(3) {
		c := broad(0, 0, 1, 2, 5, 5)
		c.Col, c.ManyCols = b.at, b.many
		list = append(list, c)
	}
	for _, b := range badRuns(2) {
		c := broad(0, 0, 3, 1, 5, 5)
		c.Row, c.ManyRows = b.at, b.many
		list = append(list, c)
	}
	for _, field := range []struct {
		set  func(c *impl.Cell, n int)
		most int
	}{
		{func(c *impl.Cell, n int) { c.W = n }, 30},
		{func(c *impl.Cell, n int) { c.H = n }, 30},
		{func(c *impl.Cell, n int) { c.Stick = n }, 15},
		{func(c *impl.Cell, n int) { c.PadX = n }, 10},
		{func(c *impl.Cell, n int) { c.PadY = n }, 10},
	} {
		for _, n := range beyond(0, field.most) {
			for _, c := range []impl.Cell{alone(0, 0, 0, 0), broad(1, 0, 2, 2, 30, 30)} {
				field.set(&c, n)
				list = append(list, c)
			}
		}
	}
	return list
}

// badGrids returns grids of which something is not valid.
func badGrids() []impl.Grid {
	cols, rows := []impl.Line{{Weight: 1}, {Min: 4}, {Weight: 5, Min: 30}}, []impl.Line{{Weight: 2, Min: 1}, {}}
	good := []impl.Cell{alone(2, 1, 6, 7), broad(0, 0, 2, 2, 8, 9)}
	grids := []impl.Grid{{}, {Cells: good}, {Cols: cols}, {Rows: rows}}
	for _, bad := range badLines() {
		grids = append(grids, impl.Grid{Cols: bad, Rows: rows}, impl.Grid{Cols: cols, Rows: bad}, impl.Grid{Cols: bad, Rows: bad})
		if len(bad) > 0 {
			one := []impl.Cell{alone(0, 0, 1, 1)}
			grids = append(grids, impl.Grid{Cols: bad, Rows: rows, Cells: one}, impl.Grid{Cols: cols, Rows: bad, Cells: one})
		}
	}
	for _, bad := range badCells() {
		grids = append(grids, impl.Grid{Cols: cols, Rows: rows, Cells: []impl.Cell{bad}})
		grids = append(grids, impl.Grid{Cols: cols, Rows: rows, Cells: append(slices.Clone(good), bad)})
		grids = append(grids, impl.Grid{Cols: cols, Rows: rows, Cells: append([]impl.Cell{bad}, slices.Repeat(good[:1], 7)...)})
	}
	for _, many := range []int{9, 10, 50} {
		grids = append(grids, impl.Grid{Cols: cols, Rows: rows, Cells: slices.Repeat(good[:1], many)})
	}
	// Cells of columns are not cells of rows.
	return append(grids, impl.Grid{Cols: rows, Rows: cols, Cells: []impl.Cell{alone(2, 1, 1, 1)}}, impl.Grid{Cols: cols, Rows: rows, Cells: []impl.Cell{alone(1, 2, 1, 1)}}, impl.Grid{Cols: cols, Rows: rows, Cells: []impl.Cell{broad(0, 0, 2, 3, 1, 1)}})
}

// turned returns a grid that is turned over its corner: columns are rows.
func turned(g impl.Grid) impl.Grid {
	over := impl.Grid{Cols: g.Rows, Rows: g.Cols}
	for _, c := range g.Cells {
		over.Cells = append(over.Cells, impl.Cell{Col: c.Row, Row: c.Col, ManyCols: c.ManyRows, ManyRows: c.ManyCols, W: c.H, H: c.W, Stick: c.Stick%4*4 + c.Stick/4, PadX: c.PadY, PadY: c.PadX})
	}
	return over
}

// gridSizes returns the sizes in which a grid is to be laid out: as great as it needs, a little less and more, none, and as great as can be.
func gridSizes(g impl.Grid) []size {
	w, h := sumOf(wantRequests(g.Cols, colSpans(g))), sumOf(wantRequests(g.Rows, rowSpans(g)))
	sizes := []size{{0, 0}, {0, 400}, {400, 0}, {400, 400}, {13, 31}}
	for _, s := range []size{{w, h}, {w - 1, h + 1}, {w + 1, h - 1}, {w - 7, h - 5}, {w / 2, h / 3}, {w / 4, 2 * h}, {w + 4, h + 11}, {w + 60, h + 90}} {
		sizes = append(sizes, size{min(max(s.w, 0), 400), min(max(s.h, 0), 400)})
	}
	return sizes
}

// eachGrid calls a function with grids of all sorts in sizes of all sorts.
func eachGrid(do func(g impl.Grid, w, h int)) {
	for _, g := range goodGrids() {
		for _, s := range gridSizes(g) {
			do(g, s.w, s.h)
		}
	}
}

// The functions below say what the document says, also of more and greater cells than it allows, as directly as they can.

// wantParts returns the parts of a number by weights.
func wantParts(n int, weights []int) []int {
	parts := make([]int, len(weights))
	if sumOf(weights) == 0 {
		parts[len(parts)-1] = n
		return parts
	}
	for i, w := range weights {
		parts[i] = n * w / sumOf(weights)
	}
	for i := 0; sumOf(parts) < n; i++ {
		if weights[i] != 0 {
			parts[i]++
		}
	}
	return parts
}

// wantRequests returns the sizes that lines need.
func wantRequests(lines []impl.Line, spans []impl.Span) []int {
	sizes := minsOf(lines)
	byMany := slices.Clone(spans)
	slices.SortStableFunc(byMany, func(a, b impl.Span) int { return a.Many - b.Many })
	for _, s := range byMany {
		together := sumOf(sizes[s.At : s.At+s.Many])
		if together >= s.Need {
			continue
		}
		for i, part := range wantParts(s.Need-together, weightsOf(lines[s.At:s.At+s.Many])) {
			sizes[s.At+i] += part
		}
	}
	return sizes
}

// wantSizes returns the sizes of lines in a room.
func wantSizes(lines []impl.Line, spans []impl.Span, room int) []int {
	sizes := wantRequests(lines, spans)
	if room > sumOf(sizes) && sumOf(weightsOf(lines)) > 0 {
		for i, part := range wantParts(room-sumOf(sizes), weightsOf(lines)) {
			sizes[i] += part
		}
	}
	for room < sumOf(sizes) {
		weights := weightsOf(lines)
		for i := range weights {
			if sizes[i] <= lines[i].Min {
				weights[i] = 0
			}
		}
		if sumOf(weights) == 0 {
			break
		}
		for i, part := range wantParts(sumOf(sizes)-room, weights) {
			sizes[i] = max(sizes[i]-part, lines[i].Min)
		}
	}
	return sizes
}

// colSpans returns the spans of the columns of the cells of a grid.
func colSpans(g impl.Grid) []impl.Span {
	var spans []impl.Span
	for _, c := range g.Cells {
		spans = append(spans, impl.Span{At: c.Col, Many: c.ManyCols, Need: c.PadX + c.W + c.PadX})
	}
	return spans
}

// rowSpans returns the spans of the rows of the cells of a grid.
func rowSpans(g impl.Grid) []impl.Span {
	var spans []impl.Span
	for _, c := range g.Cells {
		spans = append(spans, impl.Span{At: c.Row, Many: c.ManyRows, Need: c.PadY + c.H + c.PadY})
	}
	return spans
}

// wantStretch returns the place and the size of a cell in a room, across or down.
func wantStretch(room stretch, wish int, start, end bool) stretch {
	own := min(wish, room.size)
	switch {
	case start && end:
		return room
	case start:
		return stretch{room.at, own}
	case end:
		return stretch{room.at + room.size - own, own}
	}
	return stretch{room.at + (room.size-own)/2, own}
}

// wantCells returns the rectangles of the cells of a grid.
func wantCells(g impl.Grid, w, h int) []impl.Rect {
	cols, rows := wantSizes(g.Cols, colSpans(g), w), wantSizes(g.Rows, rowSpans(g), h)
	var rects []impl.Rect
	for _, c := range g.Cells {
		lines := rect(sumOf(cols[:c.Col]), sumOf(rows[:c.Row]), sumOf(cols[c.Col:c.Col+c.ManyCols]), sumOf(rows[c.Row:c.Row+c.ManyRows]))
		in := wantInset(lines, c.PadX, c.PadY)
		x := wantStretch(stretch{in.X, in.W}, c.W, c.Stick&1 > 0, c.Stick&2 > 0)
		y := wantStretch(stretch{in.Y, in.H}, c.H, c.Stick&4 > 0, c.Stick&8 > 0)
		rects = append(rects, rect(x.at, y.at, x.size, y.size))
	}
	return rects
}

// wantLine returns the line in which a place is.
func wantLine(sizes []int, place int) int {
	for i := range sizes {
		if place >= sumOf(sizes[:i]) && place < sumOf(sizes[:i+1]) {
			return i
		}
	}
	return -1
}
