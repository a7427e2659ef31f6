package tests

import (
	"math/big"
	"slices"
	"testing"

	"loop.example/g00022/impl"
)

// Promise 15: what a tool sweeps over.

// wantSwept looks on both sides of all that could be border: the ways of the tool's corners, and the tool at each end.
func wantSwept(path []impl.Seg, tool impl.Q) ([][]impl.V, bool) {
	d, moves := rat(tool), pointEdges(path)
	var lines []pointEdge
	for _, m := range moves {
		from, to := squareAround(m.a, d), squareAround(m.b, d)
		lines = append(lines, edgesOf([][]point{from, to})...)
		for i := range from {
			lines = append(lines, pointEdge{from[i], to[i]})
		}
	}
	return wantOutline(lines, func(p point) bool {
		return slices.ContainsFunc(moves, func(m pointEdge) bool { return meetsSquare(p, d, m) })
	})
}

func checkSwept(t *testing.T, name any, path []impl.Seg, tool impl.Q) (impl.Region, bool) {
	t.Helper()
	want, fine := wantSwept(path, tool)
	got, ok := impl.Swept(path, tool)
	if ok != fine || !sameLoops(got.Loops, want) {
		t.Fatal(name, path, "with", tool, "is", got, ok, "not", want, fine)
	}
	if ok && !impl.RegionOk(got) {
		t.Fatal(name, path, "with", tool, "is", got, "which is no outline")
	}
	return got, ok
}

// roundWay leads from place to place, and back to the first one.
func roundWay(xy ...int64) []impl.Seg {
	return append(ways(xy...), ways(xy[len(xy)-2], xy[len(xy)-1], xy[0], xy[1])...)
}

func TestSweptByHand(t *testing.T) {
	hole := func(left, low, right, high int64) []impl.V { return begun(backward(box(left, low, right, high)), 3) }
	one := q(1, 1)
	up := lp(-1, -1, 1, -1, 5, 3, 5, 5, 3, 5, -1, 1)
	for _, c := range []struct {
		name string
		path []impl.Seg
		tool impl.Q
		want [][]impl.V
	}{
		{"no move", nil, one, nil},
		{"no move, in a list", segs(), q(top, 1), nil},
		{"along X", segs(seg(0, 0, 3, 0)), one, lps(box(-1, -1, 4, 1))},
		{"along X, back", segs(seg(3, 0, 0, 0)), one, lps(box(-1, -1, 4, 1))},
		{"along Y", segs(seg(2, 5, 2, -1)), one, lps(box(1, -2, 3, 6))},
		{"aslant", segs(seg(0, 0, 4, 4)), one, lps(up)},
		{"aslant, back", segs(seg(4, 4, 0, 0)), one, lps(up)},
		{"aslant, falling", segs(seg(0, 4, 4, 0)), one, lps(lp(-1, 3, 3, -1, 5, -1, 5, 1, 1, 5, -1, 5))},
		{"there and back", segs(seg(0, 0, 4, 4), seg(4, 4, 0, 0)), one, lps(up)},
		{"a part of it twice", segs(seg(0, 0, 4, 4), seg(1, 1, 2, 2)), one, lps(up)},
		{"one behind the other", segs(seg(0, 0, 1, 1), seg(1, 1, 4, 4)), one, lps(up)},
		{"on one another in part", segs(seg(0, 0, 3, 3), seg(2, 2, 4, 4)), one, lps(up)},
		{"a cross", segs(seg(-3, 0, 3, 0), seg(0, -3, 0, 3)), one, lps(lp(-4, -1, -1, -1, -1, -4, 1, -4, 1, -1, 4, -1, 4, 1, 1, 1, 1, 4, -1, 4, -1, 1, -4, 1))},
		{"round a corner", segs(seg(0, 0, 4, 0), seg(4, 0, 4, 4)), one, lps(lp(-1, -1, 5, -1, 5, 5, 3, 5, 3, 1, -1, 1))},
		{"apart", segs(seg(0, 0, 4, 0), seg(0, 5, 4, 5)), one, lps(box(-1, -1, 5, 1), box(-1, 4, 5, 6))},
		{"touching along an edge", segs(seg(0, 0, 4, 0), seg(0, 2, 4, 2)), one, lps(box(-1, -1, 5, 3))},
		{"touching along a part of an edge", segs(seg(0, 0, 4, 0), seg(1, 2, 6, 2)), one, lps(lp(-1, -1, 5, -1, 5, 1, 7, 1, 7, 3, 0, 3, 0, 1, -1, 1))},
		{"touching at a corner", segs(seg(0, 0, 4, 0), seg(6, 2, 8, 2)), one, lps(box(-1, -1, 5, 1), box(5, 1, 9, 3))},
		{"touching along a slant", segs(seg(0, 0, 4, 4), seg(2, -2, 6, 2)), one, lps(lp(-1, -1, 1, -1, 1, -3, 3, -3, 7, 1, 7, 3, 5, 3, 5, 5, 3, 5, -1, 1))},
		{"a hole left in the middle", roundWay(0, 0, 6, 0, 6, 6, 0, 6), one, lps(box(-1, -1, 7, 7), hole(1, 1, 5, 5))},
		{"a hole that is filled just", roundWay(0, 0, 2, 0, 2, 2, 0, 2), one, lps(box(-1, -1, 3, 3))},
		{"a slit that is filled just", roundWay(0, 0, 6, 0, 6, 2, 0, 2), one, lps(box(-1, -1, 7, 3))},
		{"a hole that touches itself", append(roundWay(0, 0, 8, 0, 8, 8, 0, 8), seg(0, 4, 3, 4), seg(5, 2, 8, 2)), one,
			lps(box(-1, -1, 9, 9), lp(1, 1, 1, 3, 4, 3, 4, 5, 1, 5, 1, 7, 7, 7, 7, 3, 4, 3, 4, 1))},
		{"a triangle's way round", roundWay(0, 0, 12, 0, 0, 12), one, lps(lp(-1, -1, 13, -1, 13, 1, 1, 13, -1, 13), lp(1, 1, 1, 9, 9, 1))},
		{"a fraction of a tool", segs(seg(0, 0, 1, 0)), q(1, 3), lps([]impl.V{{X: q(-1, 3), Y: q(-1, 3)}, {X: q(4, 3), Y: q(-1, 3)}, {X: q(4, 3), Y: q(1, 3)}, {X: q(-1, 3), Y: q(1, 3)}})},
		{"a great tool", segs(seg(0, 0, 1, 0)), q(top-1, 1), lps(box(1-top, 1-top, top, top-1))},
		{"a small one in a great one's way", segs(seg(0, 0, 100, 0), seg(10, 0, 20, 1), seg(30, 0, 31, -1)), q(3, 1), lps(lp(-3, -3, 27, -3, 28, -4, 34, -4, 34, -3, 103, -3, 103, 3, 23, 3, 23, 4, 17, 4, 7, 3, -3, 3))},
	} {
		if got, ok := impl.Swept(c.path, c.tool); !ok || !sameLoops(got.Loops, c.want) {
			t.Error(c.name, got, ok, "not", c.want)
		}
		checkSwept(t, c.name, c.path, c.tool)
		slices.Reverse(c.path)
		if got, ok := impl.Swept(c.path, c.tool); !ok || !sameLoops(got.Loops, c.want) {
			t.Error(c.name, "in another order", got, ok, "not", c.want)
		}
	}
}

func TestSweptMany(t *testing.T) {
	t.Parallel()
	good, bad, holes := 0, 0, 0
	for kind := range spotKinds {
		s := &spots{dice(1550 + kind), kind}
		for range []int{40, 20, 8, 10, 8}[kind] {
			var path []impl.Seg
			for range 1 + s.next()%[]uint64{4, 3, 2, 2, 2}[kind] {
				path = append(path, s.seg())
			}
			if kind == 0 && s.next()%2 == 0 {
				// A way that hangs together.
				for i := range path[1:] {
					path[i+1].A = path[i].B
				}
			}
			tool, ok := impl.QMul(s.coord(), q(1, 1+int64(s.next()%3)))
			tool.Num = max(tool.Num, -tool.Num)
			if !ok || tool.Num == 0 || slices.ContainsFunc(path, func(m impl.Seg) bool { return !impl.SegOk(m) }) {
				continue
			}
			r, ok := checkSwept(t, kind, path, tool)
			if len(r.Loops) > 1 {
				holes++
			}
			if ok {
				good++
			} else {
				bad++
			}
		}
	}
	if good < 40 || bad < 5 || holes < 5 {
		t.Error("too few of a kind:", good, bad, holes)
	}
}

// What is swept is what each move sweeps over, together; and a region grows by what a tool sweeps over along its edges.
func TestSweptBySets(t *testing.T) {
	t.Parallel()
	grown, summed := 0, 0
	for kind := range 2 {
		s := &shapes{spots{dice(1560 + kind), kind}}
		for range 50 {
			r, ok := impl.MakeRegion(s.loops())
			tool := q(1, 1+int64(s.next()%4))
			var path []impl.Seg
			for _, loop := range r.Loops {
				for i, v := range loop {
					path = append(path, impl.Seg{A: v, B: loop[(i+1)%len(loop)]})
				}
			}
			if !ok || len(path) > 60 {
				continue
			}
			swept, ok := impl.Swept(path, tool)
			if !ok {
				continue
			}
			more, ok1 := impl.Grow(r, tool)
			both, ok2 := impl.Both(r, swept, impl.OpOr)
			less, ok3 := impl.Shrink(r, tool)
			rest, ok4 := impl.Both(r, swept, impl.OpLess)
			if ok1 && ok2 && ok3 && ok4 {
				grown++
				if !sameLoops(more.Loops, both.Loops) || !sameLoops(less.Loops, rest.Loops) {
					t.Fatal(r, "grown by", tool, "is", more, "not", both, "and shrunk", less, "not", rest)
				}
			}
			var list []impl.Region
			for _, m := range path {
				one, _ := impl.Swept(segs(m), tool)
				list = append(list, one)
			}
			if all, ok := impl.All(list); ok {
				summed++
				if !sameLoops(all.Loops, swept.Loops) {
					t.Fatal(path, "with", tool, "is", swept, "not", all)
				}
			}
		}
	}
	if grown < 40 || summed < 40 {
		t.Error("too few of a kind:", grown, summed)
	}
}

// apartMoves are far from each other: so many along X, and so many aslant behind them.
func apartMoves(along, aslant int64) []impl.Seg {
	var path []impl.Seg
	for i := range along + aslant {
		x, y := 10*(i%6), 10*(i/6)
		if i < along {
			path = append(path, seg(x, y, x+2, y))
		} else {
			path = append(path, seg(x, y, x+2, y+3))
		}
	}
	return path
}

func TestSweptMost(t *testing.T) {
	for _, c := range []struct {
		along, aslant int64
		want          int
	}{{25, 0, 100}, {1, 16, 100}, {10, 10, 100}, {0, 17, -1}, {26, 0, -1}, {24, 0, 96}, {60, 0, -1}, {0, 60, -1}} {
		got, ok := impl.Swept(apartMoves(c.along, c.aslant), q(1, 2))
		if ok != (c.want >= 0) || ok && countPlaces(got.Loops) != c.want || !ok && got.Loops != nil {
			t.Error(c, "has", countPlaces(got.Loops), ok)
		}
	}
	// Two that have an odd number of places together, and others with four and with six.
	two := segs(seg(-40, 0, -30, 0), seg(-35, 0, -34, 5))
	alone, ok := checkSwept(t, "two", two, q(1, 1))
	count := countPlaces(alone.Loops)
	if !ok || count%2 == 0 {
		t.Fatal("not an odd number of places:", count)
	}
	for _, want := range []int{97, 99, 101, 103} {
		six := int64(want-count) / 2 % 2
		path := append(apartMoves((int64(want-count)-6*six)/4, six), two...)
		got, ok := impl.Swept(path, q(1, 1))
		if ok != (want <= 100) || ok && countPlaces(got.Loops) != want || !ok && got.Loops != nil {
			t.Error(want, "places are", countPlaces(got.Loops), ok)
		}
	}
}

// rowOfMoves are one behind the other along a line, perhaps aslant.
func rowOfMoves(n, up int64) []impl.Seg {
	var path []impl.Seg
	for i := range n {
		path = append(path, seg(i, up*i, i+1, up*i+up))
	}
	return path
}

func TestSweptMostMoves(t *testing.T) {
	for _, up := range []int64{0, 1} {
		got, ok := impl.Swept(rowOfMoves(60, up), q(1, 1))
		one, _ := impl.Swept(segs(seg(0, 0, 60, 60*up)), q(1, 1))
		if !ok || !sameLoops(got.Loops, one.Loops) {
			t.Error("60 moves", got, ok, "not", one)
		}
		for _, n := range []int64{61, 62, 200} {
			if got, ok := impl.Swept(rowOfMoves(n, up), q(1, 1)); ok || got.Loops != nil {
				t.Error(n, "moves", got, ok)
			}
		}
	}
	if got, ok := impl.Swept(slices.Repeat(segs(seg(0, 0, 3, 0), seg(3, 0, 0, 0)), 30), q(1, 1)); !ok || !sameLoops(got.Loops, lps(box(-1, -1, 4, 1))) {
		t.Error("there and back, 30 times", got, ok)
	}
	// All of 60 moves cross, at places that need great numbers.
	var star []impl.Seg
	for i := range int64(30) {
		star = append(star, impl.Seg{A: impl.V{X: q(0, 1), Y: q(999983*i+1, 1000003)}, B: impl.V{X: q(31, 1), Y: q(999979*(29-i)+3, 999961)}})
		star = append(star, impl.Seg{A: impl.V{X: q(999959*i+2, 999953), Y: q(0, 1)}, B: impl.V{X: q(999931*(29-i)+5, 999917), Y: q(31, 1)}})
	}
	if got, ok := impl.Swept(star, q(1, 1000)); ok || got.Loops != nil {
		t.Error("a star of 60 moves has", countPlaces(got.Loops))
	}
	// A great tool leaves few places of them.
	if got, ok := impl.Swept(star, q(40, 1)); !ok || len(got.Loops) != 1 {
		t.Error("a star of 60 moves, with a great tool, has", got, ok)
	}
}

// Only what is told has to be a V.
func TestSweptNoPlace(t *testing.T) {
	far := impl.V{X: q(1, top-1), Y: q(0, 1)}
	near := impl.Seg{A: far, B: at(1, 0)}
	for _, c := range []struct {
		name string
		path []impl.Seg
		tool impl.Q
		fine bool
	}{
		{"over the limit", segs(seg(0, 0, top, 0)), q(1, 1), false},
		{"under the limit", segs(seg(0, -top, 0, 0)), q(1, top), false},
		{"to the limit", segs(seg(1-top, 0, top-1, 0)), q(1, 1), true},
		{"too fine", segs(near), q(1, 2), false},
		{"fine", segs(near), q(1, top-1), true},
		{"too fine, and hidden", segs(near, seg(-1, 0, 1, 0)), q(1, 2), true},
		{"too fine, and hidden but for one corner", segs(impl.Seg{A: far, B: at(1, 7)}, seg(-1, 0, 1, 0)), q(1, 2), false},
		{"a crossing that is none", segs(seg(0, 0, top-1, 1), impl.Seg{A: impl.V{X: q(1, 3), Y: q(-9, 1)}, B: impl.V{X: q(1, 3), Y: q(9, 1)}}), q(1, 3), false},
	} {
		if _, ok := checkSwept(t, c.name, c.path, c.tool); ok != c.fine {
			t.Error(c.name, ok)
		}
	}
}

func checkNoSweep(t *testing.T, name any, path []impl.Seg, tool impl.Q) {
	t.Helper()
	if got, ok := impl.Swept(path, tool); ok || got.Loops != nil {
		t.Error(name, "with", tool, "is swept over:", got, ok)
	}
	for _, keep := range []impl.Region{{}, region(box(0, 0, 9, 9))} {
		if got, ok := impl.Gouges(path, keep, tool); ok || len(got) != 0 {
			t.Error(name, "with", tool, "gouges:", got, ok)
		}
	}
}

func TestSweepsRefused(t *testing.T) {
	path := segs(seg(0, 0, 3, 0), seg(3, 0, 3, 4))
	for _, tool := range append(brokenFractions(), q(0, 1), q(-1, 1), q(-1, top), q(-top, 1)) {
		checkNoSweep(t, "a tool", path, tool)
		checkNoSweep(t, "a tool, no move", nil, tool)
	}
	for _, bad := range brokenFractions() {
		for i := range 8 {
			broken := slices.Clone(path)
			m := &broken[i/4]
			*[]*impl.Q{&m.A.X, &m.A.Y, &m.B.X, &m.B.Y}[i%4] = bad
			checkNoSweep(t, "a broken move", broken, q(1, 1))
		}
	}
	for _, m := range segs(seg(1, 1, 1, 1), impl.Seg{}, impl.Seg{A: at(1, 1)}) {
		checkNoSweep(t, "no move at all", segs(m), q(1, 1))
		checkNoSweep(t, "no move at all, behind others", append(rowOfMoves(30, 0), m), q(1, 1))
		checkNoSweep(t, "no move at all, ahead of others", append(segs(m), rowOfMoves(30, 0)...), q(1, 1))
	}
	for _, n := range []int64{61, 100} {
		checkNoSweep(t, "too many moves", rowOfMoves(n, 0), q(1, 1))
	}
}

// Every place near a move is swept over, and no other.
func TestPlacesSwept(t *testing.T) {
	t.Parallel()
	var seen [3]int
	s := &spots{dice(1570), 1}
	for range 60 {
		path, tool := segs(s.seg(), s.seg(), s.seg()), q(1+int64(s.next()%3), 2)
		if !impl.QOk(tool) {
			continue
		}
		r, ok := impl.Swept(path, tool)
		if !ok {
			continue
		}
		for range 20 {
			v := s.place()
			p := pointOf(v)
			near := func(d *big.Rat) bool {
				return slices.ContainsFunc(pointEdges(path), func(m pointEdge) bool { return meetsSquare(p, d, m) })
			}
			got := impl.Where(r, v)
			seen[got]++
			if near(rat(tool)) != (got != impl.WhereOut) {
				t.Fatal(v, "is", got, "in what", path, "with", tool, "sweeps over")
			}
		}
	}
	if min(seen[0], seen[2]) < 100 || seen[1] < 5 {
		t.Error("too few of a kind:", seen)
	}
}
