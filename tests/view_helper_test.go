package tests

import (
	"math"
	"slices"

	"loop.example/widgetroom/impl"
)

// panes returns panes of sizes, and of least sizes.
func panes(sizes []int, mins ...int) impl.Panes {
	return impl.Panes{Sizes: sizes, Mins: mins}
}

// sizesOf returns sizes as a list.
func sizesOf(sizes ...int) []int {
	return sizes
}

// samePanes reports whether panes are the same; none are the same as nil.
func samePanes(a, b impl.Panes) bool {
	return slices.Equal(a.Sizes, b.Sizes) && slices.Equal(a.Mins, b.Mins)
}

// copiedPanes returns panes with memory of their own.
func copiedPanes(p impl.Panes) impl.Panes {
	return impl.Panes{Sizes: slices.Clone(p.Sizes), Mins: slices.Clone(p.Mins)}
}

// smallPanes returns all panes, at most 3, whose sizes are at most 3.
func smallPanes() []impl.Panes {
	var list []impl.Panes
	grown := []impl.Panes{{}}
	for range 3 {
		var next []impl.Panes
		for _, p := range grown {
			for size := range 4 {
				for least := range size + 1 {
					next = append(next, panes(append(slices.Clone(p.Sizes), size), append(slices.Clone(p.Mins), least)...))
				}
			}
		}
		list, grown = append(list, next...), next
	}
	return list
}

// edgePanes returns panes that the document names: single ones, and those at their least sizes, at the limits, and without a size.
func edgePanes() []impl.Panes {
	return []impl.Panes{
		panes(sizesOf(0), 0), panes(sizesOf(30), 30), panes(sizesOf(400), 0), panes(sizesOf(400), 30),
		panes(make([]int, 2), 0, 0), panes(make([]int, 6), make([]int, 6)...), panes(sizesOf(400, 0), 0, 0), panes(sizesOf(0, 400), 0, 30), panes(sizesOf(200, 200), 30, 30),
		panes(slices.Repeat([]int{30}, 6), slices.Repeat([]int{30}, 6)...), panes(sizesOf(250, 30, 30, 30, 30, 30), slices.Repeat([]int{30}, 6)...), panes(sizesOf(30, 30, 30, 30, 30, 250), slices.Repeat([]int{30}, 6)...),
		panes(sizesOf(0, 0, 400, 0, 0, 0), make([]int, 6)...), panes(sizesOf(1, 2, 3, 4, 5, 6), 1, 2, 3, 4, 5, 6), panes(sizesOf(1, 2, 3, 4, 5, 6), 0, 2, 0, 4, 0, 6), panes(sizesOf(70, 60, 80, 50, 90, 50), 0, 10, 20, 30, 5, 1),
		panes(sizesOf(9, 0, 9, 0, 9), 3, 0, 9, 0, 1), panes(sizesOf(10, 8, 6), 2, 5, 0),
	}
}

// mixedPanes returns panes of all sorts.
func mixedPanes() []impl.Panes {
	r := &row{}
	var list []impl.Panes
	for n := range 300 {
		var p impl.Panes
		mostMin, mostMore := []int{0, 4, 30}[r.upTo(2)], []int{0, 5, 36}[r.upTo(2)]
		for range n%impl.MaxPanes + 1 {
			least := r.upTo(mostMin)
			p.Mins, p.Sizes = append(p.Mins, least), append(p.Sizes, least+r.upTo(mostMore))
		}
		list = append(list, p)
	}
	return list
}

// goodPanes returns panes of all sorts, also those at the limits.
func goodPanes() []impl.Panes {
	return slices.Concat(smallPanes(), edgePanes(), mixedPanes())
}

// oddlyLeast returns panes that have no least sizes, or more or fewer of them than sizes.
func oddlyLeast() []impl.Panes {
	var list []impl.Panes
	for many := 0; many <= 8; many++ {
		for leasts := 0; leasts <= 8; leasts++ {
			if many != leasts || many == 0 || many > 6 {
				list = append(list, panes(slices.Repeat([]int{5}, many), slices.Repeat([]int{3}, leasts)...), panes(make([]int, many), make([]int, leasts)...))
			}
		}
	}
	return append(list, impl.Panes{}, panes(sizesOf(1)), panes(nil, 1), panes(sizesOf(5, 5, 5, 5), 1, 1, 1), panes(sizesOf(5, 5, 5), 1, 1, 1, 1))
}

// badPanes returns panes that are not valid.
func badPanes() []impl.Panes {
	list := append(oddlyLeast(),
		panes(sizesOf(1), 2), panes(sizesOf(0, 9), 1, 2), panes(sizesOf(9, 29), 9, 30), panes(sizesOf(40), 31), panes(sizesOf(40, 40, 40), 30, 30, 31), panes(sizesOf(-1), -1), panes(sizesOf(5, -1), 2, -1), panes(sizesOf(-1), 0),
		panes(sizesOf(401), 0), panes(sizesOf(400, 1), 0, 1), panes(sizesOf(200, 201), 30, 30), panes(sizesOf(250, 30, 30, 30, 31, 30), slices.Repeat([]int{30}, 6)...), panes(sizesOf(500, -100), 0, -200), panes(sizesOf(500, -100), 0, 0),
		// All of these sizes together wrap around to a number of at most 400.
		panes(sizesOf(math.MaxInt, math.MaxInt, 2), 0, 0, 0), panes(sizesOf(1<<62, 1<<62, 1<<62, 1<<62, 7), 0, 0, 0, 0, 0), panes(sizesOf(math.MaxInt, math.MaxInt, 30), 30, 30, 30), panes(sizesOf(math.MaxInt, 1), 0, 1))
	for _, good := range edgePanes() {
		for i := range good.Sizes {
			for _, n := range beyond(0, 30) {
				bad := copiedPanes(good)
				bad.Mins[i] = n
				list = append(list, bad)
			}
			for _, n := range beyond(good.Mins[i], 400-sumOf(good.Sizes)+good.Sizes[i]) {
				bad := copiedPanes(good)
				bad.Sizes[i] = n
				list = append(list, bad)
			}
		}
	}
	return list
}

// dragsOf returns numbers by which sashes of panes are dragged: some of them few, and those that are just as far as a sash can go, or one more.
func dragsOf(p impl.Panes) []int {
	list := []int{-400, -399, -31, -30, 31, 399, 400}
	for n := -12; n <= 12; n++ {
		list = append(list, n)
	}
	for i := range p.Sizes {
		before := sumOf(p.Sizes[:i+1]) - sumOf(p.Mins[:i+1])
		behind := sumOf(p.Sizes[i:]) - sumOf(p.Mins[i:])
		list = append(list, -before, min(1-before, 400), max(-1-before, -400), behind, behind-1, min(behind+1, 400))
	}
	return list
}

// eachDrag calls a function with panes of all sorts, each sash between them, and drags of all sorts.
func eachDrag(do func(p impl.Panes, sash, by int)) {
	for _, p := range goodPanes() {
		for sash := range len(p.Sizes) - 1 {
			for _, by := range dragsOf(p) {
				do(p, sash, by)
			}
		}
	}
}

// roomsOf returns rooms for panes: as great as they are, and as they must be, a little less and more, none, and as great as can be.
func roomsOf(p impl.Panes) []int {
	list := []int{0, 1, 2, 3, 7, 30, 200, 399, 400}
	for _, n := range []int{sumOf(p.Mins), sumOf(p.Sizes)} {
		list = append(list, max(n-1, 0), n, min(n+1, 400))
	}
	return list
}

// eachResize calls a function with panes of all sorts, and rooms of all sorts.
func eachResize(do func(p impl.Panes, room int)) {
	for _, p := range goodPanes() {
		for _, room := range roomsOf(p) {
			do(p, room)
		}
	}
}

// scrolled returns a view of lines, of which some are seen, from one on.
func scrolled(total, page, first int) impl.View {
	return impl.View{Total: total, Page: page, First: first}
}

// smallViews returns all views of at most 7 lines, also such with greater pages.
func smallViews() []impl.View {
	var list []impl.View
	for total := range 8 {
		for page := 1; page <= 9; page++ {
			for first := 0; first == 0 || first+page <= total; first++ {
				list = append(list, scrolled(total, page, first))
			}
		}
	}
	return list
}

// edgeViews returns views that the document names: without lines, with pages greater than all lines, and at the limits.
func edgeViews() []impl.View {
	return []impl.View{
		scrolled(0, 1, 0), scrolled(0, 500, 0), scrolled(1, 1, 0), scrolled(1, 500, 0), scrolled(499, 500, 0), scrolled(500, 500, 0), scrolled(500, 499, 0), scrolled(500, 499, 1),
		scrolled(500, 1, 0), scrolled(500, 1, 1), scrolled(500, 1, 250), scrolled(500, 1, 498), scrolled(500, 1, 499), scrolled(500, 20, 480), scrolled(500, 250, 250), scrolled(499, 3, 496), scrolled(50, 10, 20), scrolled(3, 10, 0), scrolled(333, 7, 0), scrolled(333, 7, 326),
	}
}

// mixedViews returns views of all sorts.
func mixedViews() []impl.View {
	r := &row{}
	var list []impl.View
	for range 120 {
		most := []int{20, 120, 500}[r.upTo(2)]
		total, page := r.upTo(most), 1+r.upTo([]int{5, 60, 499}[r.upTo(2)])
		list = append(list, scrolled(total, page, r.upTo(max(total-page, 0))))
	}
	return list
}

// goodViews returns views of all sorts, also those at the limits.
func goodViews() []impl.View {
	return slices.Concat(smallViews(), edgeViews(), mixedViews())
}

// badViews returns views that are not valid.
func badViews() []impl.View {
	list := []impl.View{{}, scrolled(5, 0, 0), scrolled(5, 10, 1), scrolled(0, 1, 1), scrolled(0, 0, 0), scrolled(0, 1, -1), scrolled(500, 500, 1), scrolled(501, 1, 0), scrolled(500, 501, 0), scrolled(501, 501, 0), scrolled(50, 10, 41),
		// What is left of the lines without a page wraps around.
		scrolled(math.MinInt, 1, 5), scrolled(math.MinInt, 1, 0), scrolled(5, math.MinInt, 0), scrolled(5, math.MinInt, 5), scrolled(-2, math.MaxInt, 0), scrolled(-2, math.MaxInt, 9), scrolled(math.MinInt, math.MinInt, 0), scrolled(math.MaxInt, math.MaxInt, 0), scrolled(math.MaxInt, -1, 0)}
	for _, good := range edgeViews() {
		for _, n := range beyond(0, 500) {
			list = append(list, scrolled(n, good.Page, good.First))
		}
		for _, n := range beyond(1, 500) {
			list = append(list, scrolled(good.Total, n, good.First))
		}
		for _, n := range beyond(0, max(good.Total-good.Page, 0)) {
			list = append(list, scrolled(good.Total, good.Page, n))
		}
	}
	return list
}

// scrollsOf returns numbers by which a view is scrolled: some of them few, and those that are just up to its ends, or one further.
func scrollsOf(v impl.View) []int {
	list := []int{-500, -499, -20, 20, 250, 499, 500}
	for n := -10; n <= 10; n++ {
		list = append(list, n)
	}
	behind := max(v.Total-v.Page, 0) - v.First
	return append(list, -v.First, 1-v.First, max(-1-v.First, -500), behind, behind-1, min(behind+1, 500), v.Page, -v.Page)
}

// eachScroll calls a function with views of all sorts, and numbers of all sorts by which they are scrolled.
func eachScroll(do func(v impl.View, n int)) {
	for _, v := range goodViews() {
		for _, n := range scrollsOf(v) {
			do(v, n)
		}
	}
}

// eachLine calls a function with views of all sorts, and each line of them.
func eachLine(do func(v impl.View, n int)) {
	for _, v := range goodViews() {
		for n := range v.Total {
			do(v, n)
		}
	}
}

// The functions below say what the document says, as directly as they can.

// wantGiver returns the first one of panes, told by their indices, that can still have 1 less; -1 if there is none.
func wantGiver(sizes, mins, way []int) int {
	for _, i := range way {
		if sizes[i] > mins[i] {
			return i
		}
	}
	return -1
}

// wayOf returns the panes in the way of a sash that is dragged, the nearest one first.
func wayOf(p impl.Panes, sash, by int) []int {
	var before, behind []int
	for i := range p.Sizes {
		if i <= sash {
			before = append([]int{i}, before...)
		} else {
			behind = append(behind, i)
		}
	}
	if by < 0 {
		return before
	}
	return behind
}

// wantDragged returns the sizes of panes of which a sash is dragged, 1 further again and again.
func wantDragged(p impl.Panes, sash, by int) []int {
	sizes, way, other := slices.Clone(p.Sizes), wayOf(p, sash, by), sash
	if by < 0 {
		other = sash + 1
	}
	for range max(by, -by) {
		i := wantGiver(sizes, p.Mins, way)
		if i < 0 {
			break
		}
		sizes[i]--
		sizes[other]++
	}
	return sizes
}

// wantResized returns the sizes of panes that get a room, 1 more or less again and again, and whether they can.
func wantResized(p impl.Panes, room int) ([]int, bool) {
	sizes, last := slices.Clone(p.Sizes), len(p.Sizes)-1
	for sumOf(sizes) < room {
		sizes[last]++
	}
	for sumOf(sizes) > room {
		i := wantGiver(sizes, p.Mins, wayOf(p, last, -1))
		if i < 0 {
			return nil, false
		}
		sizes[i]--
	}
	return sizes, true
}

// ownersOf returns the pane of each place.
func ownersOf(p impl.Panes) []int {
	var owners []int
	for i, size := range p.Sizes {
		owners = append(owners, slices.Repeat([]int{i}, size)...)
	}
	return owners
}

// wantSash returns the number of places ahead of a sash.
func wantSash(p impl.Panes, sash int) int {
	many := 0
	for _, owner := range ownersOf(p) {
		if owner <= sash {
			many++
		}
	}
	return many
}

// wantFirst returns the view with the first line, of those that suit, that is the nearest to a line.
func wantFirst(v impl.View, to int, suits func(first int) bool) impl.View {
	best := -1
	for first := 0; first == 0 || first+v.Page <= v.Total; first++ {
		if suits(first) && (best < 0 || max(first-to, to-first) < max(best-to, to-best)) {
			best = first
		}
	}
	return scrolled(v.Total, v.Page, best)
}

// anyFirst suits always.
func anyFirst(int) bool {
	return true
}

// wantPart returns the greatest number of which so many times the parts are no more than so many times the whole.
func wantPart(parts, many, whole int) int {
	n := 0
	for (n+1)*parts <= many*whole {
		n++
	}
	return n
}

// wantThumb returns where a thumb begins and ends.
func wantThumb(v impl.View) (int, int) {
	if v.Total == 0 {
		return 0, 1000
	}
	behind := v.First
	for behind < v.Total && behind < v.First+v.Page {
		behind++
	}
	return wantPart(v.Total, v.First, 1000), wantPart(v.Total, behind, 1000)
}
