package tests

import (
	"math/big"
	"slices"
	"testing"

	"loop.example/g00022/impl"
)

// Promise 7.

func tri(a, b, c int64) impl.Tri { return impl.Tri{A: a, B: b, C: c} }

// triAny begins the triangle with its least position.
func triAny(a, b, c int64) impl.Tri {
	for a > b || a > c {
		a, b, c = b, c, a
	}
	return tri(a, b, c)
}

func compareTris(s, t impl.Tri) int {
	return slices.Compare([]int64{s.A, s.B, s.C}, []int64{t.A, t.B, t.C})
}

// circleOf tells the centre, where the lines that stand upright on two edges' middles cross, and the square of the radius.
func circleOf(a, b, c point) (point, *big.Rat) {
	upright := func(p, o point) (point, point) {
		m := between(p, o, big.NewRat(1, 2))
		return m, point{minusRat(m.x, minusRat(o.y, p.y)), plusRat(m.y, minusRat(o.x, p.x))}
	}
	m, n := upright(a, b)
	k, l := upright(b, c)
	centre := crossing(m, n, k, l)
	return centre, square(centre, a)
}

// isIn tells by distances whether the place d is in the circle of a, b, c, and on the circle by the document's words.
func isIn(list []point, t impl.Tri, d int64) bool {
	a, b, c := t.A, t.B, t.C
	centre, radius := circleOf(list[a], list[b], list[c])
	if far := square(centre, list[d]).Cmp(radius); far != 0 {
		return far < 0
	}
	turn := func(i, j, k int64) int { return side(list[i], list[j], list[k]) }
	four := []int64{a, b, c, d}
	slices.Sort(four)
	for _, i := range four {
		o := slices.DeleteFunc(slices.Clone(four), func(k int64) bool { return k == i })
		if turn(o[0], o[1], o[2]) != 0 {
			return i == a && turn(b, c, d) > 0 || i == b && turn(a, c, d) < 0 || i == c && turn(a, b, d) > 0
		}
	}
	return false
}

func others(n int, t impl.Tri) []int64 {
	var list []int64
	for d := range int64(n) {
		if d != t.A && d != t.B && d != t.C {
			list = append(list, d)
		}
	}
	return list
}

// wantDelaunay tries all triangles.
func wantDelaunay(list []point) []impl.Tri {
	var tris []impl.Tri
	n := int64(len(list))
	for a := range n {
		for b := a + 1; b < n; b++ {
			for c := a + 1; c < n; c++ {
				t := tri(a, b, c)
				in := func(d int64) bool { return isIn(list, t, d) }
				if side(list[a], list[b], list[c]) > 0 && !slices.ContainsFunc(others(len(list), t), in) {
					tris = append(tris, t)
				}
			}
		}
	}
	return tris
}

// sidesOf tells the edges of triangles as they go along them.
func sidesOf(tris ...impl.Tri) []impl.Pair {
	var list []impl.Pair
	for _, t := range tris {
		list = append(list, impl.Pair{A: t.A, B: t.B}, impl.Pair{A: t.B, B: t.C}, impl.Pair{A: t.C, B: t.A})
	}
	return list
}

func otherWay(p impl.Pair) impl.Pair { return impl.Pair{A: p.B, B: p.A} }

// checkBorder: triangles to the left of which no two go along an edge in one direction lie once over what is on the left of the
// edges that belong to one alone; these have to be those of border.
func checkBorder(t *testing.T, list []impl.V, tris []impl.Tri, border []impl.Pair) {
	t.Helper()
	all := sidesOf(tris...)
	var alone []impl.Pair
	for i, p := range all {
		if slices.Contains(all[:i], p) {
			t.Fatal(list, tris, "have two along", p)
		}
		if !slices.Contains(all, otherWay(p)) {
			alone = append(alone, p)
		}
	}
	for _, s := range tris {
		if s.A > s.B || s.A > s.C || impl.Turn(list[s.A], list[s.B], list[s.C]) != 1 {
			t.Fatal(list, tris, "have one that is not as it should be:", s)
		}
	}
	same := func(a, b []impl.Pair) bool {
		return len(a) == len(b) && !slices.ContainsFunc(a, func(p impl.Pair) bool { return !slices.Contains(b, p) })
	}
	if !same(alone, border) {
		t.Fatal(list, tris, "have the border", alone, "not", border)
	}
}

// hullSides tells the ways from place to place round all places, which are not on one line.
func hullSides(list []point) []impl.Pair {
	var sides []impl.Pair
	for a := range list {
		for b := range list {
			bare := a != b && !slices.ContainsFunc(list, func(p point) bool {
				turn := side(list[a], list[b], p)
				isEnd := p.cmp(list[a]) == 0 || p.cmp(list[b]) == 0
				return turn < 0 || turn == 0 && !isEnd && isOn(p, list[a], list[b])
			})
			if bare {
				sides = append(sides, impl.Pair{A: int64(a), B: int64(b)})
			}
		}
	}
	return sides
}

func onOneLine(list []point) bool {
	return len(list) < 3 || !slices.ContainsFunc(list, func(p point) bool { return side(list[0], list[1], p) != 0 })
}

func checkDelaunay(t *testing.T, list []impl.V) []impl.Tri {
	t.Helper()
	tris, ok := impl.Delaunay(list)
	if want := wantDelaunay(pointsOf(list)); !ok || !slices.Equal(tris, want) {
		t.Fatal("Delaunay of", list, tris, ok, "not", want)
	}
	checkHull(t, list, tris)
	return tris
}

func checkHull(t *testing.T, list []impl.V, tris []impl.Tri) {
	t.Helper()
	if !slices.IsSortedFunc(tris, compareTris) {
		t.Fatal(tris, "are not in order")
	}
	if points := pointsOf(list); !onOneLine(points) {
		checkBorder(t, list, tris, hullSides(points))
		if border := len(hullSides(points)); len(tris) != 2*len(list)-2-border {
			t.Fatal(len(tris), "triangles of", len(list), "places, of which the border has", border)
		}
	} else if len(tris) > 0 {
		t.Fatal(tris, "of places on one line")
	}
}

// orders tells all orders of 0 .. n-1.
func orders(n int) [][]int {
	if n == 0 {
		return [][]int{{}}
	}
	var list [][]int
	for _, o := range orders(n - 1) {
		for k := range n {
			list = append(list, slices.Insert(slices.Clone(o), k, n-1))
		}
	}
	return list
}

func pick(list []impl.V, order []int) []impl.V {
	var picked []impl.V
	for _, i := range order {
		picked = append(picked, list[i])
	}
	return picked
}

func (d *dice) mixed(list []impl.V) []impl.V {
	var out []impl.V
	for _, v := range list {
		out = slices.Insert(out, int(d.next()%uint64(len(out)+1)), v)
	}
	return out
}

// round has twelve places on one circle, to the left.
func round() []impl.V {
	return lp(5, 0, 4, 3, 3, 4, 0, 5, -3, 4, -4, 3, -5, 0, -4, -3, -3, -4, 0, -5, 3, -4, 4, -3)
}

// earsInOrder cuts off 0, 1, 2 .. from places on one circle: each is lifted more than all behind it, so that it belongs to one
// triangle alone of those that it makes with them. Places tells for each the position on the circle.
func earsInOrder(places []int) []impl.Tri {
	left := make([]int, len(places))
	for i, at := range places {
		left[at] = i
	}
	var tris []impl.Tri
	for i := range len(places) - 2 {
		k, n := slices.Index(left, i), len(left)
		tris = append(tris, triAny(int64(left[(k+n-1)%n]), int64(i), int64(left[(k+1)%n])))
		left = slices.Delete(left, k, k+1)
	}
	slices.SortFunc(tris, compareTris)
	return tris
}

func TestPlacesOnOneCircle(t *testing.T) {
	square := box(0, 0, 2, 2)
	for _, o := range orders(4) {
		// Place 0 is lifted: the diagonal is that of its neighbours.
		list := pick(square, o)
		if tris := checkDelaunay(t, list); !slices.Equal(tris, earsInOrder(o)) || slices.ContainsFunc(tris[1:], func(s impl.Tri) bool { return s.A == 0 }) {
			t.Error("square", list, tris, "not", earsInOrder(o))
		}
	}
	five := []impl.V{round()[0], round()[2], round()[5], round()[7], round()[10]}
	for _, o := range orders(5) {
		if tris := checkDelaunay(t, pick(five, o)); !slices.Equal(tris, earsInOrder(o)) {
			t.Error("five", o, tris)
		}
	}
	d := dice(9)
	for range 40 {
		list := d.mixed(round())
		var o []int
		for _, v := range list {
			o = append(o, slices.Index(round(), v))
		}
		if tris, ok := impl.Delaunay(list); !ok || !slices.Equal(tris, earsInOrder(o)) {
			t.Error("twelve", list, tris, ok, "not", earsInOrder(o))
		}
	}
	checkDelaunay(t, d.mixed(round()))
	// One in the middle parts all the others, and leaves nothing to decide.
	for range 4 {
		tris := checkDelaunay(t, d.mixed(append(round(), at(0, 0))))
		if len(tris) != 12 {
			t.Error("with a middle", tris)
		}
	}
}

func grid(wide, high int64) []impl.V {
	var list []impl.V
	for y := range high {
		for x := range wide {
			list = append(list, at(x, y))
		}
	}
	return list
}

func TestGrids(t *testing.T) {
	// In a row of squares the lower left place is the least one of each.
	if tris := checkDelaunay(t, grid(3, 2)); !slices.Equal(tris, []impl.Tri{tri(0, 1, 3), tri(1, 2, 4), tri(1, 4, 3), tri(2, 5, 4)}) {
		t.Error("two squares", tris)
	}
	d := dice(10)
	for _, list := range [][]impl.V{grid(3, 3), grid(4, 3), grid(7, 2), grid(2, 6)} {
		for range 3 {
			checkDelaunay(t, d.mixed(list))
		}
	}
	most := d.mixed(grid(6, 5))
	if tris := checkDelaunay(t, most); len(most) != impl.MaxSites || len(tris) != 40 {
		t.Error("as many places as there may be", tris)
	}
	// A wheel: circles with one middle, on which the same four decide in many ways.
	checkDelaunay(t, d.mixed(lp(0, 0, 1, 0, 0, 1, -1, 0, 0, -1, 2, 2, -2, 2, -2, -2, 2, -2, 7, 0, 0, 7, -7, 0, 0, -7)))
}

func TestDelaunayByHand(t *testing.T) {
	for _, c := range []struct {
		name string
		list []impl.V
		want []impl.Tri
	}{
		{"none", nil, nil},
		{"one", lp(1, 1), nil},
		{"two", lp(1, 1, 2, 0), nil},
		{"three", lp(0, 0, 1, 0, 0, 1), []impl.Tri{tri(0, 1, 2)}},
		{"three, to the right", lp(0, 0, 0, 1, 1, 0), []impl.Tri{tri(0, 2, 1)}},
		{"three on a line", lp(0, 0, 2, 2, 1, 1), nil},
		{"many on a line", lp(9, 0, 3, 6, 6, 3, 5, 4, 0, 9, 1, 8), nil},
		{"upright line", lp(2, 5, 2, -1, 2, 0), nil},
		{"four, three on a line", lp(0, 0, 2, 0, 4, 0, 2, 3), []impl.Tri{tri(0, 1, 3), tri(1, 2, 3)}},
		{"on a line, and one on each side", lp(0, 0, 1, 0, 2, 0, 1, 1, 1, -1), []impl.Tri{tri(0, 1, 3), tri(0, 4, 1), tri(1, 2, 3), tri(1, 4, 2)}},
		{"a short diagonal", lp(0, 0, 3, -1, 6, 0, 3, 1), []impl.Tri{tri(0, 1, 3), tri(1, 2, 3)}},
		{"a short diagonal, begun elsewhere", lp(3, -1, 6, 0, 3, 1, 0, 0), []impl.Tri{tri(0, 1, 2), tri(0, 2, 3)}},
		{"a place in a triangle", lp(2, 2, 6, 0, 0, 6, 0, 0), []impl.Tri{tri(0, 1, 2), tri(0, 2, 3), tri(0, 3, 1)}},
		{"a place on an edge of the hull", lp(0, 0, 4, 0, 0, 4, 2, 2, 1, 1), []impl.Tri{tri(0, 1, 4), tri(0, 4, 2), tri(1, 3, 4), tri(2, 4, 3)}},
		{"hardly in the circle", []impl.V{at(0, 0), at(2, 0), {X: q(2, 1), Y: q(top-1, top/2)}, at(0, 2)}, []impl.Tri{tri(0, 1, 2), tri(0, 2, 3)}},
		{"hardly out of it", []impl.V{at(0, 0), at(2, 0), {X: q(2, 1), Y: q(top/4+1, top/8)}, at(0, 2)}, []impl.Tri{tri(0, 1, 3), tri(1, 2, 3)}},
		{"great", lp(-top, -top, top, -top, top, top, -top, top), []impl.Tri{tri(0, 1, 3), tri(1, 2, 3)}},
		{"great, hardly in the circle", lp(-top, -top, top, -top, top-1, top, -top, top), []impl.Tri{tri(0, 1, 2), tri(0, 2, 3)}},
	} {
		if tris := checkDelaunay(t, c.list); !slices.Equal(tris, c.want) {
			t.Error(c.name, tris)
		}
	}
	if impl.MaxSites != 30 || impl.MaxTris != 80 || impl.MaxFlips != 2000 || impl.MaxSteps != 6 {
		t.Error("the limits have changed")
	}
}

// unlike tells up to n unlike places.
func (s *spots) unlike(n int) []impl.V {
	var list []impl.V
	for range n {
		if v := s.place(); !slices.Contains(list, v) {
			list = append(list, v)
		}
	}
	return list
}

func TestDelaunayMany(t *testing.T) {
	t.Parallel()
	for kind := range spotKinds {
		s := &spots{dice(700 + kind), kind}
		for n := range []int{26, 20, 14, 9, 8}[kind] {
			for range 3 {
				checkDelaunay(t, s.unlike(n))
			}
		}
	}
}

func TestDelaunayLimits(t *testing.T) {
	list := grid(6, 5)
	if tris, ok := impl.Delaunay(append(list, at(9, 9))); ok || len(tris) != 0 {
		t.Error("one place too many", tris, ok)
	}
	for i := range list {
		again := slices.Clone(list)
		again[i] = again[(i+7)%30]
		if tris, ok := impl.Delaunay(again); ok || len(tris) != 0 {
			t.Error("two the same", tris, ok)
		}
	}
	for _, v := range brokenPlaces() {
		for i := range 4 {
			broken := lp(0, 0, 4, 0, 4, 5, 1, 3)
			broken[i] = v
			if tris, ok := impl.Delaunay(broken); ok || len(tris) != 0 {
				t.Error(v, "is taken for a place", tris, ok)
			}
		}
		if _, ok := impl.Delaunay([]impl.V{v}); ok {
			t.Error(v, "alone is taken for a place")
		}
	}
}
