package impl

// MaxCoord is the greatest place of a rectangle.
const MaxCoord = 1000

// MaxSide is the greatest side of a rectangle.
const MaxSide = 400

// MaxPad is the greatest room around something.
const MaxPad = 10

// SdTop is a side: the top.
const SdTop = 0

// SdBottom is a side: the bottom.
const SdBottom = 1

// SdLeft is a side: the left.
const SdLeft = 2

// SdRight is a side: the right.
const SdRight = 3

// lastAnchor is the anchor at the right end of the bottom.
const lastAnchor = 8

// Rect is a rectangle: its place, its width, and its height.
type Rect struct {
	X int
	Y int
	W int
	H int
}

// ValidRect reports whether a rectangle is valid.
func ValidRect(r Rect) bool {
	return validStretch(r.X, r.W) && validStretch(r.Y, r.H)
}

// HasPoint reports whether a rectangle has a point.
func HasPoint(r Rect, x int, y int) bool {
	return ValidRect(r) && r.has(x, y)
}

// MeetRects returns what two rectangles have in common.
func MeetRects(a Rect, b Rect) (Rect, bool) {
	if !ValidRect(a) || !ValidRect(b) {
		return Rect{}, false
	}
	return a.meet(b)
}

// CoverRects returns the rectangle around two rectangles.
func CoverRects(a Rect, b Rect) (Rect, bool) {
	if !ValidRect(a) || !ValidRect(b) {
		return Rect{}, false
	}
	return ifValid(a.cover(b), ValidRect)
}

// InsideRect reports whether a rectangle lies in another one.
func InsideRect(a Rect, b Rect) bool {
	return ValidRect(a) && ValidRect(b) && a.holds(b)
}

// MoveRect returns a rectangle at another place.
func MoveRect(r Rect, dx int, dy int) (Rect, bool) {
	if !ValidRect(r) || !within(dx, -MaxCoord, MaxCoord) || !within(dy, -MaxCoord, MaxCoord) {
		return Rect{}, false
	}
	return ifValid(r.moved(dx, dy), ValidRect)
}

// InsetRect returns a rectangle that is smaller at all sides.
func InsetRect(r Rect, px int, py int) Rect {
	if !ValidRect(r) || !within(px, 0, MaxPad) || !within(py, 0, MaxPad) {
		return Rect{}
	}
	return r.inset(px, py)
}

// CutRect returns a piece of a rectangle, and the rest.
func CutRect(r Rect, side int, n int) (Rect, Rect) {
	if !ValidRect(r) || !validSide(side) || !within(n, 0, MaxSide) {
		return Rect{}, Rect{}
	}
	return r.cut(side, n)
}

// AnchorRect returns a rectangle of a size in another one.
func AnchorRect(r Rect, w int, h int, anchor int) Rect {
	if !ValidRect(r) || !within(w, 0, MaxSide) || !within(h, 0, MaxSide) || !validAnchor(anchor) {
		return Rect{}
	}
	return r.anchored(w, h, anchor)
}

// AreaOf returns the number of points of a rectangle.
func AreaOf(r Rect) int {
	if !ValidRect(r) {
		return -1
	}
	return r.W * r.H
}

// within reports whether a number is in least..most.
func within(n int, least int, most int) bool {
	return least <= n && n <= most
}

// validStretch reports whether a place and a size, across or down, are those of a valid rectangle.
func validStretch(at int, size int) bool {
	// Both are within their limits before they are added, so the sum cannot wrap around.
	return within(at, -MaxCoord, MaxCoord) && within(size, 0, MaxSide) && at+size <= MaxCoord
}

// validSide reports whether a number is a side.
func validSide(side int) bool {
	return within(side, SdTop, SdRight)
}

// validAnchor reports whether a number is an anchor.
func validAnchor(anchor int) bool {
	return within(anchor, 0, lastAnchor)
}

// ifValid returns something and true, but only if it is valid.
func ifValid[E any](e E, valid func(E) bool) (E, bool) {
	if !valid(e) {
		var none E
		return none, false
	}
	return e, true
}

// fromCorners returns the rectangle from one corner to the opposite one, which is just outside.
func fromCorners(left int, top int, right int, bottom int) Rect {
	return Rect{X: left, Y: top, W: right - left, H: bottom - top}
}

// The methods check no limits: the functions above do that for their arguments.

// right returns the place across at which the rectangle has ended.
func (r Rect) right() int {
	return r.X + r.W
}

// bottom returns the place down at which the rectangle has ended.
func (r Rect) bottom() int {
	return r.Y + r.H
}

// size returns the height of the rectangle, or its width.
func (r Rect) size(down bool) int {
	if down {
		return r.H
	}
	return r.W
}

// has reports whether the rectangle has a point.
func (r Rect) has(x int, y int) bool {
	return r.X <= x && x < r.right() && r.Y <= y && y < r.bottom()
}

// meet returns what the rectangle has in common with another one, and whether that has points.
func (r Rect) meet(other Rect) (Rect, bool) {
	both := fromCorners(max(r.X, other.X), max(r.Y, other.Y), min(r.right(), other.right()), min(r.bottom(), other.bottom()))
	if both.W <= 0 || both.H <= 0 {
		return Rect{}, false
	}
	return both, true
}

// cover returns the rectangle around this and another one.
func (r Rect) cover(other Rect) Rect {
	return fromCorners(min(r.X, other.X), min(r.Y, other.Y), max(r.right(), other.right()), max(r.bottom(), other.bottom()))
}

// holds reports whether another rectangle lies in this one.
func (r Rect) holds(other Rect) bool {
	// One that lies inside adds nothing to what covers both, even if it has no points.
	return r.cover(other) == r
}

// moved returns the rectangle at another place.
func (r Rect) moved(dx int, dy int) Rect {
	return Rect{X: r.X + dx, Y: r.Y + dy, W: r.W, H: r.H}
}

// inset returns the rectangle without some room at all sides.
func (r Rect) inset(px int, py int) Rect {
	return Rect{X: r.X + min(px, r.W/2), Y: r.Y + min(py, r.H/2), W: max(r.W-2*px, 0), H: max(r.H-2*py, 0)}
}

// cut returns the piece of the rectangle at a side, and the rest.
func (r Rect) cut(side int, n int) (Rect, Rect) {
	return cutters()[side](r, n)
}

// cutters returns how a rectangle is cut at each of the sides.
func cutters() [4]func(Rect, int) (Rect, Rect) {
	return [4]func(Rect, int) (Rect, Rect){
		SdTop:    Rect.cutTop,
		SdBottom: Rect.cutBottom,
		SdLeft:   Rect.cutLeft,
		SdRight:  Rect.cutRight,
	}
}

// cutTop returns the piece at the top, and the rest.
func (r Rect) cutTop(n int) (Rect, Rect) {
	edge := r.Y + min(n, r.H)
	return fromCorners(r.X, r.Y, r.right(), edge), fromCorners(r.X, edge, r.right(), r.bottom())
}

// cutBottom returns the piece at the bottom, and the rest.
func (r Rect) cutBottom(n int) (Rect, Rect) {
	rest, piece := r.cutTop(r.H - min(n, r.H))
	return piece, rest
}

// cutLeft returns the piece at the left, and the rest.
func (r Rect) cutLeft(n int) (Rect, Rect) {
	edge := r.X + min(n, r.W)
	return fromCorners(r.X, r.Y, edge, r.bottom()), fromCorners(edge, r.Y, r.right(), r.bottom())
}

// cutRight returns the piece at the right, and the rest.
func (r Rect) cutRight(n int) (Rect, Rect) {
	rest, piece := r.cutLeft(r.W - min(n, r.W))
	return piece, rest
}

// anchored returns the rectangle of a size, as far as there is room, at an anchor in this one.
func (r Rect) anchored(w int, h int, anchor int) Rect {
	w, h = min(w, r.W), min(h, r.H)
	// The anchor counts the halves of what is left that lie ahead: none, one, or both.
	return Rect{X: r.X + (r.W-w)*(anchor%3)/2, Y: r.Y + (r.H-h)*(anchor/3)/2, W: w, H: h}
}
