package tests

import (
	"slices"
	"testing"

	"loop.example/g00022/impl"
)

// Promise 7: bad edges.

func pair(a, b int64) impl.Pair { return impl.Pair{A: a, B: b} }

func comparePairs(p, o impl.Pair) int { return slices.Compare([]int64{p.A, p.B}, []int64{o.A, o.B}) }

// alongEdge tells the third corner of a triangle that goes from a to b.
func alongEdge(tris []impl.Tri, a, b int64) (int64, bool) {
	for _, t := range tris {
		for _, o := range []impl.Tri{t, tri(t.B, t.C, t.A), tri(t.C, t.A, t.B)} {
			if o.A == a && o.B == b {
				return o.C, true
			}
		}
	}
	return 0, false
}

func twoAlong(tris []impl.Tri) bool {
	all := sidesOf(tris...)
	slices.SortFunc(all, comparePairs)
	return len(slices.Compact(all)) < 3*len(tris)
}

// turnedEdge has the other diagonal in place of that from p to q.
func turnedEdge(tris []impl.Tri, p, q, one, two int64) []impl.Tri {
	tris = slices.DeleteFunc(slices.Clone(tris), func(t impl.Tri) bool {
		return t == triAny(p, q, one) || t == triAny(q, p, two)
	})
	return append(tris, triAny(p, two, one), triAny(q, one, two))
}

func isFixed(fixed []impl.Pair, p, q int64) bool {
	return slices.Contains(fixed, pair(p, q)) || slices.Contains(fixed, pair(q, p))
}

// wantLegal looks through all edges again after each turn, and tells how many turns there were.
func wantLegal(list []impl.V, tris []impl.Tri, fixed []impl.Pair) ([]impl.Tri, bool, int) {
	places, n := pointsOf(list), int64(len(list))
	for turns := 0; turns <= 2000; turns++ {
		if twoAlong(tris) {
			return nil, false, turns
		}
		was := tris
	search:
		for p := range n {
			for q := p + 1; q < n; q++ {
				one, ok1 := alongEdge(tris, p, q)
				two, ok2 := alongEdge(tris, q, p)
				if ok1 && ok2 && !isFixed(fixed, p, q) && isIn(places, tri(p, q, one), two) {
					tris = turnedEdge(tris, p, q, one, two)
					break search
				}
			}
		}
		if slices.Equal(tris, was) {
			tris = slices.Clone(tris)
			slices.SortFunc(tris, compareTris)
			return tris, true, turns
		}
	}
	return nil, false, 2001
}

func checkLegal(t *testing.T, list []impl.V, tris []impl.Tri, fixed []impl.Pair) ([]impl.Tri, bool, int) {
	t.Helper()
	got, ok := impl.Legal(list, tris, fixed)
	want, fine, turns := wantLegal(list, tris, fixed)
	if ok != fine || !slices.Equal(got, want) {
		t.Fatal("legal triangles of", list, tris, fixed, "are", got, ok, "not", want, fine, "after", turns)
	}
	return got, ok, turns
}

type legalCase struct {
	name  string
	list  []impl.V
	tris  []impl.Tri
	fixed []impl.Pair
	want  []impl.Tri
	turns int
}

func legalCases() []legalCase {
	type tris = []impl.Tri
	type pairs = []impl.Pair
	square, flat := box(0, 0, 2, 2), lp(0, 0, 3, -1, 6, 0, 3, 1)
	cut, other := tris{tri(0, 1, 2), tri(0, 2, 3)}, tris{tri(0, 1, 3), tri(1, 2, 3)}
	fan := tris{tri(0, 1, 2), tri(0, 2, 3), tri(0, 3, 4), tri(0, 4, 5)}
	six := lp(5, 0, 4, 3, 0, 5, -4, 3, -5, 0, 0, -5)
	return []legalCase{
		{"no triangles", square, nil, nil, nil, 0},
		{"no triangles, no places", nil, nil, nil, nil, 0},
		{"no triangles, places alike", lp(1, 1, 1, 1), nil, nil, nil, 0},
		{"one triangle", square, tris{tri(0, 1, 2)}, nil, tris{tri(0, 1, 2)}, 0},
		{"bad by the rule", square, cut, nil, other, 1},
		{"good by the rule", square, other, nil, other, 0},
		{"in another order", square, tris{tri(0, 2, 3), tri(0, 1, 2)}, nil, other, 1},
		{"good, in another order", square, tris{tri(1, 2, 3), tri(0, 1, 3)}, nil, other, 0},
		{"bad by the circle", flat, cut, nil, other, 1},
		{"good by the circle", flat, other, nil, other, 0},
		{"good by the circle, begun elsewhere", begun(flat, 1), cut, nil, cut, 0},
		{"bad by the circle, begun elsewhere", begun(flat, 1), other, nil, cut, 1},
		{"by the rule, begun with another one", lp(2, 0, 2, 2, 0, 2, 0, 0), cut, nil, other, 1},
		{"fixed", square, cut, pairs{pair(0, 2)}, cut, 0},
		{"fixed, the other way round", square, cut, pairs{pair(2, 0)}, cut, 0},
		{"fixed are others", square, cut, pairs{pair(0, 1), pair(1, 3), pair(3, 1), pair(2, 2), pair(1, 2), pair(3, 2)}, other, 1},
		{"fixed often", flat, cut, pairs{pair(0, 2), pair(0, 2), pair(2, 0), pair(1, 0)}, cut, 0},
		{"an edge of one triangle", lp(0, 0, 3, -1, 6, 0, 3, 1, 3, -9), tris{tri(0, 1, 2), tri(0, 4, 1)}, nil, tris{tri(0, 1, 2), tri(0, 4, 1)}, 0},
		{"apart", lp(0, 0, 1, 0, 0, 1, 9, 9, 10, 9, 9, 10), tris{tri(3, 4, 5), tri(0, 1, 2)}, nil, tris{tri(0, 1, 2), tri(3, 4, 5)}, 0},
		{"over one another", lp(0, 0, 9, 0, 0, 9, 1, 1, 8, 1, 1, 8), tris{tri(3, 4, 5), tri(0, 1, 2)}, nil, tris{tri(0, 1, 2), tri(3, 4, 5)}, 0},
		{"places that no triangle has", append(slices.Clone(flat), lp(3, 0, 1, 0, 0, 0)...), cut, nil, other, 1},
		{"places alike", lp(0, 0, 3, -1, 6, 0, 3, 1, 0, 0, 3, -1, 6, 0, 3, 1), tris{tri(0, 1, 2), tri(0, 2, 3), tri(4, 5, 7), tri(5, 6, 7)}, nil,
			tris{tri(0, 1, 3), tri(1, 2, 3), tri(4, 5, 7), tri(5, 6, 7)}, 1},
		// The edge is two, with ends alike: no triangle has the other's one.
		{"an edge with ends alike", lp(0, 0, 3, -1, 6, 0, 3, 1, 0, 0), tris{tri(0, 1, 2), tri(2, 3, 4)}, nil, tris{tri(0, 1, 2), tri(2, 3, 4)}, 0},
		{"several bad ones", six, fan, nil, tris{tri(0, 1, 5), tri(1, 2, 5), tri(2, 3, 5), tri(3, 4, 5)}, 6},
		// The edge of 1 and 4 goes first, and makes that of 2 and 4 bad in another way; turned first, this one would clash with 1 and 0.
		{"the first bad one", lp(-3, 0, -2, 3, -3, 2, -1, 3, 3, 2, 3, 2), tris{tri(1, 2, 4), tri(0, 4, 2), tri(0, 5, 1), tri(1, 4, 3)}, nil,
			tris{tri(0, 3, 2), tri(0, 4, 3), tri(0, 5, 1), tri(1, 2, 3)}, 2},
		{"several bad ones, one fixed", six, fan, pairs{pair(3, 0)}, tris{tri(0, 1, 3), tri(0, 3, 5), tri(1, 2, 3), tri(3, 4, 5)}, 2},
	}
}

func TestLegalByHand(t *testing.T) {
	for _, c := range legalCases() {
		if got, ok, turns := checkLegal(t, c.list, c.tris, c.fixed); !ok || !slices.Equal(got, c.want) || turns != c.turns {
			t.Error(c.name, got, ok, turns)
		}
	}
}

// Each order of four places in a square has both diagonals: each place decides once in each role.
func TestSquaresMadeLegal(t *testing.T) {
	turned := 0
	for _, o := range orders(4) {
		list := pick(box(0, 0, 2, 2), o)
		want, _ := impl.Delaunay(list)
		for _, s := range [][]impl.Tri{want, turnedAnywhere(list, want, 0)} {
			got, ok, turns := checkLegal(t, list, s, nil)
			if turned += turns; !ok || !slices.Equal(got, want) {
				t.Error(list, s, got, ok)
			}
		}
	}
	if turned != 24 {
		t.Error("turned", turned)
	}
}

// turnedAnywhere turns the k-th edge, of those within four places that are convex; it tells the same where there is none.
func turnedAnywhere(list []impl.V, tris []impl.Tri, k int) []impl.Tri {
	for _, e := range sidesOf(tris...) {
		two, there := alongEdge(tris, e.B, e.A)
		one, _ := alongEdge(tris, e.A, e.B)
		if e.A > e.B || !there || impl.Turn(list[one], list[e.A], list[two]) != 1 || impl.Turn(list[two], list[e.B], list[one]) != 1 {
			continue
		}
		if k == 0 {
			return turnedEdge(tris, e.A, e.B, one, two)
		}
		k--
	}
	return tris
}

// Any triangles that cover the hull, each once, are turned into Delaunay's.
func TestLegalIsDelaunay(t *testing.T) {
	t.Parallel()
	most := 0
	for kind := range spotKinds {
		s := &spots{dice(740 + kind), kind}
		for range []int{25, 15, 8, 5, 5}[kind] {
			list := s.unlike(int(3 + s.next()%uint64([]int{16, 12, 8, 6, 6}[kind])))
			want, ok := impl.Delaunay(list)
			tris := want
			for range 40 {
				tris = turnedAnywhere(list, tris, int(s.next()%20))
			}
			got, ok2, turns := checkLegal(t, list, tris, nil)
			if !ok || !ok2 || !slices.Equal(got, want) {
				t.Fatal(list, tris, "are made", got, "not", want)
			}
			most = max(most, turns)
		}
	}
	if most < 8 {
		t.Error("at most", most, "turns")
	}
}

// The ears of a loop stay a cover of it, and those of a convex one become Delaunay's.
func TestLegalEars(t *testing.T) {
	t.Parallel()
	var hulls int
	for kind := range 3 {
		s := &spots{dice(750 + kind), kind}
		for range 16 {
			loop := s.blob(9)
			tris, _ := impl.Ears(loop)
			legal, ok, _ := checkLegal(t, loop, tris, nil)
			if !ok {
				t.Fatal("ears of", loop, "are refused")
			}
			checkLoopCovered(t, loop, legal)
			// Of the same places those round all.
			convex := convexOf(loop)
			tris, _ = impl.Ears(convex)
			legal, ok, _ = checkLegal(t, convex, tris, nil)
			want, _ := impl.Delaunay(convex)
			if !ok || !slices.Equal(legal, want) {
				t.Fatal("ears of", convex, "are made", legal, ok, "not", want)
			}
			checkLoopCovered(t, convex, legal)
			if len(convex) > 3 {
				hulls++
			}
		}
	}
	if hulls < 20 {
		t.Error("only", hulls, "hulls of more than three places")
	}
	for n := int64(3); n <= 30; n++ {
		var loop []impl.V
		for i := range n {
			loop = append(loop, at(i, i*i))
		}
		tris, _ := impl.Ears(loop)
		legal, ok := impl.Legal(loop, tris, nil)
		if want, _ := impl.Delaunay(loop); !ok || !slices.Equal(legal, want) {
			t.Error(n, "places", legal, ok, "not", want)
		}
	}
	for k := range 12 {
		loop := begun(round(), k)
		tris, _ := impl.Ears(loop)
		if legal, ok := impl.Legal(loop, tris, nil); !ok || !slices.Equal(legal, earsInOrder([]int{0, 1, 2, 3, 4, 5, 6, 7, 8, 9, 10, 11})) {
			t.Error("on one circle", legal, ok)
		}
	}
}

// All places on one circle, and all triangles at place 0, which is lifted most: as many turns as there are pairs of others but two.
func TestManyTurns(t *testing.T) {
	var list []impl.V
	var fan []impl.Tri
	var order []int
	for i := range int64(30) {
		k := i - 15
		x, _ := impl.QOf(25-k*k, 25+k*k)
		y, _ := impl.QOf(10*k, 25+k*k)
		list, order = append(list, impl.V{X: x, Y: y}), append(order, int(i))
		if i > 1 {
			fan = append(fan, tri(0, i-1, i))
		}
	}
	got, ok, turns := checkLegal(t, list, fan, nil)
	if !ok || !slices.Equal(got, earsInOrder(order)) || turns != 28*27/2 {
		t.Error("a fan of 30 places", got, ok, turns)
	}
}

// convexOf tells the corners of the hull of a loop to the left, in its order.
func convexOf(loop []impl.V) []impl.V {
	var list []impl.V
	for i, v := range loop {
		isCorner := func(o impl.V) bool { return o != v && isHullSide(loop, v, o) }
		if slices.ContainsFunc(slices.Concat(loop[i:], loop[:i]), isCorner) {
			list = append(list, v)
		}
	}
	return list
}

// isHullSide tells whether the way from a to b has all others on its left, or between a and b.
func isHullSide(list []impl.V, a, b impl.V) bool {
	return !slices.ContainsFunc(list, func(v impl.V) bool {
		turn := impl.Turn(a, b, v)
		return turn < 0 || turn == 0 && !isOn(pointOf(v), pointOf(a), pointOf(b))
	})
}

// heap tells triangles of places at random, over one another, in which no two go along an edge in the same direction.
func (s *spots) heap(list []impl.V, n int) []impl.Tri {
	var tris []impl.Tri
	for range 6 * n {
		if len(list) < 3 || len(tris) == n {
			break
		}
		pos := func() int64 { return int64(s.next() % uint64(len(list))) }
		t := triAny(pos(), pos(), pos())
		if len(tris) > 0 && s.next()%2 == 0 {
			// Along an edge of one that is there.
			e := sidesOf(tris...)[s.next()%uint64(3*len(tris))]
			t = triAny(e.B, e.A, pos())
		}
		if impl.Turn(list[t.A], list[t.B], list[t.C]) == 1 && !twoAlong(append(slices.Clone(tris), t)) {
			tris = append(tris, t)
		}
	}
	return tris
}

func TestLegalHeaps(t *testing.T) {
	t.Parallel()
	clashed, turned, good := 0, 0, 0
	for kind := range spotKinds {
		s := &spots{dice(760 + kind), kind}
		for range []int{120, 60, 40, 8, 8}[kind] {
			var list []impl.V
			for range 4 + s.next()%6 {
				list = append(list, s.place())
			}
			tris := s.heap(list, int(2+s.next()%10))
			var fixed []impl.Pair
			for range s.next() % 4 {
				fixed = append(fixed, pair(int64(s.next()%uint64(len(list))), int64(s.next()%uint64(len(list)))))
			}
			_, ok, turns := checkLegal(t, list, tris, fixed)
			switch {
			case !ok:
				clashed++
			case turns > 0:
				turned++
			default:
				good++
			}
		}
	}
	if clashed < 5 || turned < 20 || good < 20 {
		t.Error("too few of a kind", clashed, turned, good)
	}
}

func checkNoLegal(t *testing.T, name any, list []impl.V, tris []impl.Tri, fixed []impl.Pair) {
	t.Helper()
	if got, ok := impl.Legal(list, tris, fixed); ok || len(got) != 0 {
		t.Error(name, list, tris, fixed, "is taken:", got)
	}
}

func TestTwoAlongAnEdge(t *testing.T) {
	square := append(box(0, 0, 2, 2), lp(0, -5, 1, 7, 9, 9)...)
	checkNoLegal(t, "the same twice", square, []impl.Tri{tri(0, 1, 2), tri(0, 1, 2)}, nil)
	checkNoLegal(t, "over one another", square, []impl.Tri{tri(0, 1, 2), tri(0, 1, 3)}, nil)
	checkNoLegal(t, "the last edge of both", square, []impl.Tri{tri(0, 1, 5), tri(0, 2, 5)}, nil)
	// Turned, the square has the edge from 1 to 3 in both directions; the third triangle had the one or the other.
	for _, third := range []impl.Tri{tri(1, 3, 4), tri(1, 6, 3)} {
		all := []impl.Tri{tri(0, 1, 2), tri(0, 2, 3), third}
		if _, ok, turns := checkLegal(t, square, all, nil); ok || turns != 1 {
			t.Error(third, "clashes after", turns, "turns", ok)
		}
		checkNoLegal(t, "later on", square, all, nil)
		if got, ok := impl.Legal(square, all, []impl.Pair{pair(0, 2)}); !ok || len(got) != 3 {
			t.Error("nothing is turned, and yet it clashes", got, ok)
		}
	}
}

// Were the last bad one turned first, there would be no clash.
func TestClashOfTheFirstBadOne(t *testing.T) {
	list, tris := lp(-1, 1, 1, -2, -3, -1, 2, 0, -1, 3, 2, -3), []impl.Tri{tri(1, 3, 4), tri(1, 4, 2), tri(0, 1, 5), tri(0, 5, 4)}
	if _, ok, turns := checkLegal(t, list, tris, nil); ok || turns != 1 {
		t.Error("clash", ok, turns)
	}
	if got, ok := impl.Legal(list, tris, []impl.Pair{pair(0, 5)}); !ok || !slices.Equal(got, []impl.Tri{tri(0, 1, 5), tri(0, 5, 4), tri(1, 3, 2), tri(2, 3, 4)}) {
		t.Error("one edge fixed", got, ok)
	}
}

func TestLegalRefuses(t *testing.T) {
	list := box(0, 0, 4, 4)
	good := []impl.Tri{tri(0, 1, 2), tri(0, 2, 3)}
	for name, bad := range map[string]impl.Tri{
		"not begun with its least":         tri(1, 2, 0),
		"not begun with its least, either": tri(2, 0, 1),
		"to the right":                     tri(0, 2, 1),
		"to the right, begun elsewhere":    tri(2, 1, 0),
		"a position twice":                 tri(0, 0, 1),
		"another position twice":           tri(0, 1, 1),
		"first and last":                   tri(0, 1, 0),
		"three times":                      tri(2, 2, 2),
		"below 0":                          tri(-1, 0, 1),
		"below 0, second":                  tri(0, -1, 1),
		"below 0, third":                   tri(0, 1, -1),
		"past the end":                     tri(0, 1, 4),
		"past the end, second":             tri(0, 4, 1),
		"past the end, first":              tri(4, 0, 1),
		"far past the end":                 tri(0, 1, 1<<62),
		"far below":                        tri(-1<<63, 0, 1),
	} {
		for k := range 3 {
			checkNoLegal(t, name, list, slices.Insert(slices.Clone(good), k, bad), nil)
		}
		checkNoLegal(t, name, list, []impl.Tri{bad}, nil)
	}
	onLine := lp(0, 0, 2, 2, 4, 4, 0, 0, 4, 0)
	checkNoLegal(t, "on one line", onLine, []impl.Tri{tri(0, 1, 2)}, nil)
	checkNoLegal(t, "places alike", onLine, []impl.Tri{tri(0, 3, 4)}, nil)
	for _, p := range []impl.Pair{pair(-1, 0), pair(0, -1), pair(4, 0), pair(0, 4), pair(-1, 4), pair(1<<62, 1), pair(1, -1<<63)} {
		checkNoLegal(t, "fixed", list, good, []impl.Pair{p})
		checkNoLegal(t, "fixed, the last", list, good, []impl.Pair{pair(0, 1), p})
		checkNoLegal(t, "fixed, no triangles", list, nil, []impl.Pair{p})
	}
	checkNoLegal(t, "no places", nil, good, nil)
	checkNoLegal(t, "no places, fixed", nil, nil, []impl.Pair{pair(0, 0)})
	for _, v := range brokenPlaces() {
		for i := range list {
			broken := slices.Clone(list)
			broken[i] = v
			checkNoLegal(t, v, broken, good, nil)
			checkNoLegal(t, v, broken, nil, nil)
		}
		checkNoLegal(t, "a place that no triangle has", append(slices.Clone(list), v), good, nil)
	}
}

// layers has n triangles over one another, no two of which have an edge in common.
func layers(n int) []impl.Tri {
	var tris []impl.Tri
	for a := int64(0); len(tris) < n; a++ {
		for b := a + 1; b < 30 && len(tris) < n; b++ {
			for c := b + 1; c < 30 && len(tris) < n; c++ {
				if more := append(tris, tri(a, b, c)); !twoAlong(more) {
					tris = more
				}
			}
		}
	}
	return tris
}

func TestMostTriangles(t *testing.T) {
	var list []impl.V
	for i := range int64(30) {
		list = append(list, at(i, i*i))
	}
	if _, ok, _ := checkLegal(t, list, layers(80), nil); !ok {
		t.Error("as many triangles as there may be")
	}
	if want, ok, _ := wantLegal(list, layers(81), nil); !ok || len(want) != 81 {
		t.Error("they are not refused because of their number")
	}
	checkNoLegal(t, "one triangle too many", list, layers(81), nil)
	fixed := slices.Repeat([]impl.Pair{pair(3, 9)}, 80)
	if _, ok, _ := checkLegal(t, list, layers(3), fixed); !ok {
		t.Error("as many Pairs as there may be")
	}
	checkNoLegal(t, "one Pair too many", list, layers(3), append(fixed, pair(3, 9)))
	checkNoLegal(t, "one place too many", append(list, at(50, 0)), layers(3), nil)
	checkNoLegal(t, "one place too many, no triangles", append(list, at(50, 0)), nil, nil)
}
