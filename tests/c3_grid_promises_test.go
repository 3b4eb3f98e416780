package tests

import (
	"slices"
	"testing"

	"loop.example/widgetroom/impl"
)

func TestPromise20PartsAreAllOfTheNumber(t *testing.T) {
	for _, weights := range goodWeights() {
		for _, n := range []int{0, 1, 2, 3, 5, 8, 13, 64, 255, 399, 400} {
			parts := impl.SpreadBy(n, weights)
			if len(parts) != len(weights) || sumOf(parts) != n || slices.Min(parts) < 0 {
				t.Fatalf("SpreadBy(%d, %v) = %v", n, weights, parts)
			}
			for i, w := range weights {
				if w == 0 && parts[i] != 0 && sumOf(weights) > 0 {
					t.Errorf("SpreadBy(%d, %v) = %v, with a part for no weight", n, weights, parts)
				}
				for ahead := range i {
					if w > weights[ahead] && parts[i] < parts[ahead]-1 {
						t.Errorf("SpreadBy(%d, %v) = %v, with less for a greater weight", n, weights, parts)
					}
				}
			}
		}
	}
}

func TestPromise21RequestsAreEnoughForAllSpans(t *testing.T) {
	for _, l := range goodLayers() {
		sizes := impl.LineRequests(l.lines, l.spans)
		if len(sizes) != len(l.lines) {
			t.Fatalf("LineRequests(%v, %v) = %v", l.lines, l.spans, sizes)
		}
		for _, s := range l.spans {
			if sumOf(sizes[s.At:s.At+s.Many]) < s.Need {
				t.Errorf("LineRequests(%v, %v) = %v, too little for %v", l.lines, l.spans, sizes, s)
			}
		}
		for i, line := range l.lines {
			if sizes[i] < line.Min {
				t.Errorf("LineRequests(%v, %v) = %v, with less than Min", l.lines, l.spans, sizes)
			}
		}
	}
}

// hasEnough reports whether a span at a place among others has enough when its turn comes: after those of fewer lines, and those of as many ahead of it.
func hasEnough(lines []impl.Line, spans []impl.Span, at int, s impl.Span) bool {
	var first []impl.Span
	for i, other := range spans {
		if other.Many < s.Many || other.Many == s.Many && i < at {
			first = append(first, other)
		}
	}
	return sumOf(impl.LineRequests(lines, first)[s.At:s.At+s.Many]) >= s.Need
}

func TestPromise22RequestsAreNoMoreThanTheyMustBe(t *testing.T) {
	enough := 0
	for _, l := range goodLayers() {
		if got := impl.LineRequests(l.lines, nil); !slices.Equal(got, minsOf(l.lines)) {
			t.Errorf("LineRequests(%v, nil) = %v", l.lines, got)
		}
		want := impl.LineRequests(l.lines, l.spans)
		for at, s := range l.spans {
			fewer := slices.Delete(slices.Clone(l.spans), at, at+1)
			if !hasEnough(l.lines, fewer, at, s) {
				continue
			}
			enough++
			if got := impl.LineRequests(l.lines, fewer); !slices.Equal(got, want) {
				t.Errorf("LineRequests(%v, %v) = %v, and without %v, which has enough, %v", l.lines, l.spans, want, s, got)
			}
		}
		if len(l.spans) == impl.MaxCells {
			continue
		}
		all := span(0, len(l.lines), min(sumOf(want), 50))
		if got := impl.LineRequests(l.lines, append(slices.Clone(l.spans), all)); !slices.Equal(got, want) {
			t.Errorf("LineRequests(%v, %v) = %v, and with %v, which has enough, %v", l.lines, l.spans, want, all, got)
		}
	}
	if enough == 0 {
		t.Error("no span has enough")
	}
}

func TestPromise23SizesFillTheRoom(t *testing.T) {
	filled, stopped := 0, 0
	for _, l := range goodLayers() {
		requests := impl.LineRequests(l.lines, l.spans)
		// Lines can be no less than this: those with a weight can shrink, and the others cannot.
		least := 0
		for i, line := range l.lines {
			if line.Weight > 0 {
				least += line.Min
			} else {
				least += requests[i]
			}
		}
		weighted := sumOf(weightsOf(l.lines)) > 0
		need := sumOf(requests)
		for _, room := range []int{0, least - 1, least, least + 1, need / 2, need - 1, need, need + 1, need + 13, 400} {
			room = min(max(room, 0), 400)
			sizes := impl.LineSizes(l.lines, l.spans, room)
			if len(sizes) != len(l.lines) {
				t.Fatalf("LineSizes(%v, %v, %d) = %v", l.lines, l.spans, room, sizes)
			}
			for i, line := range l.lines {
				if sizes[i] < line.Min {
					t.Errorf("LineSizes(%v, %v, %d) = %v, with less than Min", l.lines, l.spans, room, sizes)
				}
			}
			switch {
			case weighted && room >= least:
				filled++
				if sumOf(sizes) != room {
					t.Errorf("LineSizes(%v, %v, %d) = %v", l.lines, l.spans, room, sizes)
				}
			case weighted:
				stopped++
				if sumOf(sizes) != least {
					t.Errorf("LineSizes(%v, %v, %d) = %v, but they can be %d", l.lines, l.spans, room, sizes, least)
				}
			case !slices.Equal(sizes, requests):
				t.Errorf("LineSizes(%v, %v, %d) = %v without weights, not %v", l.lines, l.spans, room, sizes, requests)
			}
		}
	}
	if filled == 0 || stopped == 0 {
		t.Errorf("%d rooms are filled, and %d are too little", filled, stopped)
	}
}

func TestPromise24InTheRoomThatTheyAskForLinesHaveIt(t *testing.T) {
	for _, l := range goodLayers() {
		requests := impl.LineRequests(l.lines, l.spans)
		if len(requests) != len(l.lines) {
			t.Fatalf("LineRequests(%v, %v) = %v", l.lines, l.spans, requests)
		}
		if got := impl.LineSizes(l.lines, l.spans, sumOf(requests)); !slices.Equal(got, requests) {
			t.Errorf("LineSizes(%v, %v, %d) = %v, not %v", l.lines, l.spans, sumOf(requests), got, requests)
		}
	}
}

func TestPromise25GridsCanBeEmptied(t *testing.T) {
	for _, g := range goodGrids() {
		for _, none := range [][]impl.Cell{nil, {}} {
			emptied := impl.Grid{Cols: g.Cols, Rows: g.Rows, Cells: none}
			over := impl.Grid{Cols: g.Rows, Rows: g.Cols, Cells: none}
			if !impl.ValidGrid(g) || !impl.ValidGrid(emptied) || !impl.ValidGrid(over) {
				t.Errorf("%+v is valid: %v, emptied: %v, and turned: %v", g, impl.ValidGrid(g), impl.ValidGrid(emptied), impl.ValidGrid(over))
			}
			if w, h := impl.GridRequest(emptied); w != sumOf(minsOf(g.Cols)) || h != sumOf(minsOf(g.Rows)) {
				t.Errorf("GridRequest(%+v) = %d, %d", emptied, w, h)
			}
		}
	}
}

func TestPromise26RowsAndColumnsAskAlike(t *testing.T) {
	for _, g := range goodGrids() {
		w, h := impl.GridRequest(g)
		overW, overH := impl.GridRequest(turned(g))
		if w < 0 || h < 0 || overW != h || overH != w {
			t.Errorf("GridRequest(%+v) = %d, %d, and turned %d, %d", g, w, h, overW, overH)
		}
	}
}

func TestPromise27CellsHaveWhatTheyAskFor(t *testing.T) {
	for _, g := range goodGrids() {
		needW, needH := impl.GridRequest(g)
		for _, more := range []size{{0, 0}, {1, 0}, {0, 1}, {17, 44}, {400, 0}, {0, 400}, {400, 400}} {
			w, h := min(needW+more.w, 400), min(needH+more.h, 400)
			rects := impl.GridRects(g, w, h)
			if len(rects) != len(g.Cells) {
				t.Fatalf("GridRects(%+v, %d, %d) = %v", g, w, h, rects)
			}
			for i, c := range g.Cells {
				if rects[i].W < c.W || rects[i].H < c.H || !impl.InsideRect(rect(0, 0, w, h), rects[i]) {
					t.Errorf("GridRects(%+v, %d, %d)[%d] = %v", g, w, h, i, rects[i])
				}
			}
		}
	}
}

// apart reports whether two runs of lines have no line in common.
func apart(a, b run) bool {
	return a.at+a.many <= b.at || b.at+b.many <= a.at
}

func TestPromise28CellsWithNoLineInCommonLieApart(t *testing.T) {
	lieApart, meet := 0, 0
	eachGrid(func(g impl.Grid, w, h int) {
		rects := impl.GridRects(g, w, h)
		if len(rects) != len(g.Cells) {
			t.Fatalf("GridRects(%+v, %d, %d) = %v", g, w, h, rects)
		}
		for i, c := range g.Cells {
			for j, d := range g.Cells[:i] {
				m, ok := impl.MeetRects(rects[i], rects[j])
				if !apart(run{c.Col, c.ManyCols}, run{d.Col, d.ManyCols}) && !apart(run{c.Row, c.ManyRows}, run{d.Row, d.ManyRows}) {
					if ok {
						meet++
					}
					continue
				}
				lieApart++
				if ok {
					t.Errorf("GridRects(%+v, %d, %d) = %v, and %d and %d have %v in common", g, w, h, rects, j, i, m)
				}
			}
		}
	})
	if lieApart == 0 || meet == 0 {
		t.Errorf("%d cells lie apart, and %d on each other", lieApart, meet)
	}
}

func TestPromise29PointsOfCellsLieInTheirLines(t *testing.T) {
	some := 0
	eachGrid(func(g impl.Grid, w, h int) {
		rects := impl.GridRects(g, w, h)
		if len(rects) != len(g.Cells) {
			t.Fatalf("GridRects(%+v, %d, %d) = %v", g, w, h, rects)
		}
		for i, c := range g.Cells {
			r := rects[i]
			if r.W == 0 || r.H == 0 {
				continue
			}
			some++
			col, row := impl.GridAt(g, w, h, r.X, r.Y)
			if col < c.Col || col >= c.Col+c.ManyCols || row < c.Row || row >= c.Row+c.ManyRows {
				t.Errorf("GridAt(%+v, %d, %d, %d, %d) = %d, %d, but it is a point of %+v", g, w, h, r.X, r.Y, col, row, c)
			}
		}
	})
	if some == 0 {
		t.Error("no cell has a point")
	}
}
