package tests

import (
	"math/big"
	"slices"
	"testing"

	"loop.example/g00022/impl"
)

// Promise 15: paths of a tool, and what they gouge.

// sweepOf are the corners of what one move sweeps over, round to the left.
func sweepOf(m pointEdge, d *big.Rat) []point {
	one, two := squareAround(m.a, d), squareAround(m.b, d)
	x, y := m.b.x.Cmp(m.a.x), m.b.y.Cmp(m.a.y)
	if x < 0 || x == 0 && y < 0 {
		return sweepOf(pointEdge{m.b, m.a}, d)
	}
	switch {
	case y == 0:
		return []point{one[0], two[1], two[2], one[3]}
	case x == 0:
		return []point{one[0], one[1], two[2], two[3]}
	case y > 0:
		return []point{one[0], one[1], two[1], two[2], two[3], one[3]}
	}
	return []point{one[0], two[0], two[1], two[2], one[2], one[3]}
}

func wantGouges(path []impl.Seg, keep impl.Region, tool impl.Q) []int64 {
	var list []int64
	for i, m := range pointEdges(path) {
		seams := seamsOf([][]point{sweepOf(m, rat(tool))}, pointLoops(keep.Loops))
		if len(seamBorder(seams, impl.OpAnd)) > 0 {
			list = append(list, int64(i))
		}
	}
	return list
}

func checkGouges(t *testing.T, name any, path []impl.Seg, keep impl.Region, tool impl.Q) []int64 {
	t.Helper()
	want := wantGouges(path, keep, tool)
	got, ok := impl.Gouges(path, keep, tool)
	if !ok || !slices.Equal(got, want) {
		t.Fatal(name, path, keep, "with", tool, "gouges at", got, ok, "not", want)
	}
	for i, m := range path {
		// Of what is swept, where it can be told, some is in what is kept.
		swept, ok1 := impl.Swept(segs(m), tool)
		both, ok2 := impl.Both(swept, keep, impl.OpAnd)
		if ok1 && ok2 && slices.Contains(got, int64(i)) != (len(both.Loops) > 0) {
			t.Fatal(name, m, keep, "with", tool, "has in common", both)
		}
	}
	return got
}

func TestGougesByHand(t *testing.T) {
	sq, one := region(box(0, 0, 4, 4)), q(1, 1)
	ring := made(t, box(0, 0, 12, 12), box(4, 4, 8, 8))
	hill := region(lp(0, 0, 6, 0, 3, 3))
	little := func(n int64) impl.Q { return q(1000+n, 1000) }
	far := impl.Seg{A: impl.V{X: q(1, top-1), Y: q(2, 1)}, B: at(1, 2)}
	for _, c := range []struct {
		name string
		path []impl.Seg
		keep impl.Region
		tool impl.Q
		want []int64
	}{
		{"no move", nil, sq, one, nil},
		{"nothing is kept", segs(seg(0, 0, 4, 4), seg(1, 1, 2, 2)), impl.Region{}, q(100, 1), nil},
		{"far away", segs(seg(9, 9, 12, 9)), sq, one, nil},
		{"along an edge", segs(seg(-3, -1, 9, -1)), sq, one, nil},
		{"along an edge, a little of it", segs(seg(-3, -1, 9, -1)), sq, little(1), []int64{0}},
		{"along an edge, a little off", segs(seg(-3, -1, 9, -1)), sq, little(-1), nil},
		{"along a part of an edge", segs(seg(1, 5, 2, 5)), sq, one, nil},
		{"at a corner", segs(seg(5, 5, 9, 5)), sq, one, nil},
		{"at a corner, a little of it", segs(seg(5, 5, 9, 5)), sq, little(1), []int64{0}},
		{"at a corner, the way's own slant", segs(seg(5, 5, 9, 9)), sq, one, nil},
		{"past a corner aslant", segs(seg(2, 8, 8, 2)), sq, one, nil},
		{"past a corner aslant, touching", segs(seg(1, 9, 9, 1)), region(box(0, 0, 4, 4)), one, nil},
		{"past a corner aslant, a little of it", segs(seg(1, 9, 9, 1)), sq, little(1), []int64{0}},
		{"along a slant", segs(seg(0, 2, 3, 5)), hill, one, nil},
		{"along a slant, a little of it", segs(seg(0, 2, 3, 5)), hill, little(1), []int64{0}},
		{"along a slant, both ways", segs(seg(0, 2, 3, 5), seg(6, 2, 3, 5), seg(3, 5, 6, 2), seg(3, 5, 0, 2), seg(3, 4, 3, 9)), hill, one, nil},
		{"a tip on an edge", segs(seg(1, 4, 5, 4)), hill, one, nil},
		{"a tip in it", segs(seg(1, 4, 5, 4)), hill, little(1), []int64{0}},
		{"inside", segs(seg(6, 1, 7, 1)), ring, q(1, 2), []int64{0}},
		{"around all of it", segs(seg(0, 0, 4, 4)), sq, q(50, 1), []int64{0}},
		{"round it", roundWay(-1, -1, 5, -1, 5, 5, -1, 5), sq, one, nil},
		{"round it, too near on one side", roundWay(-1, -1, 5, -1, 5, 5, 0, 5), sq, one, []int64{3}},
		{"in its hole", segs(seg(5, 5, 7, 7), seg(5, 7, 7, 5), seg(5, 5, 5, 7)), ring, one, nil},
		{"in its hole, too great", segs(seg(5, 5, 7, 7), seg(6, 6, 6, 7), seg(6, 5, 6, 7)), ring, little(1), []int64{0, 1, 2}},
		{"the hole and all around", segs(seg(6, 6, 7, 6)), ring, q(100, 1), []int64{0}},
		{"through it", segs(seg(-9, 2, 99, 3)), sq, q(1, top), []int64{0}},
		{"several", segs(seg(-9, -9, 9, -9), seg(2, 2, 3, 3), seg(9, 9, 8, 8), seg(4, 4, 5, 5), seg(2, -2, 2, -1), seg(0, 2, -1, 2)), sq, one, []int64{1, 3, 5}},
		{"the same twice", segs(seg(2, 2, 3, 3), seg(2, 2, 3, 3), seg(3, 3, 2, 2)), sq, one, []int64{0, 1, 2}},
		{"a sweep that has no place", segs(far, seg(0, 9, 1, 9)), sq, q(1, 2), []int64{0}},
		{"a sweep that has no place, elsewhere", segs(far), region(box(7, 7, 9, 9)), q(1, 2), nil},
		{"a sweep over the limit", segs(seg(0, 0, top, 0), seg(-top, top, top, top)), sq, q(top, 1), []int64{0, 1}},
		{"a sweep over the limit, just beside", segs(seg(top, 0, top, 1)), sq, q(top-4, 1), nil},
		{"a sweep over the limit, a little of it", segs(seg(top, 0, top, 1)), sq, q(top-3, 1), []int64{0}},
	} {
		if got, ok := impl.Gouges(c.path, c.keep, c.tool); !ok || !slices.Equal(got, c.want) {
			t.Error(c.name, got, ok, "not", c.want)
		}
		checkGouges(t, c.name, c.path, c.keep, c.tool)
	}
}

func TestGougesMany(t *testing.T) {
	t.Parallel()
	var seen [2]int
	for kind := range spotKinds {
		s := &shapes{spots{dice(1580 + kind), kind}}
		for range []int{60, 30, 15, 20, 15}[kind] {
			r, ok := impl.MakeRegion(s.loops())
			if !ok || countPlaces(r.Loops) > 30 {
				continue
			}
			path := segs(s.seg(), s.seg(), s.seg())
			tool, ok := impl.QMul(s.coord(), q(1, 1+int64(s.next()%4)))
			tool.Num = max(tool.Num, -tool.Num)
			if !ok || tool.Num == 0 {
				continue
			}
			for _, m := range path {
				bad := len(checkGouges(t, kind, segs(m), r, tool))
				seen[bad]++
			}
		}
	}
	if min(seen[0], seen[1]) < 40 {
		t.Error("too few of a kind:", seen)
	}
}

func TestGougesMost(t *testing.T) {
	sq := region(box(0, 0, 100, 3))
	var all []int64
	for i := range int64(60) {
		all = append(all, i)
	}
	if got, ok := impl.Gouges(rowOfMoves(60, 0), sq, q(1, 1)); !ok || !slices.Equal(got, all) {
		t.Error("60 moves", got, ok)
	}
	for _, keep := range []impl.Region{sq, {}} {
		if got, ok := impl.Gouges(rowOfMoves(61, 0), keep, q(1, 1)); ok || len(got) != 0 {
			t.Error("61 moves", got, ok)
		}
	}
	// The most places that a region may have.
	if got, ok := impl.Gouges(segs(seg(-9, 1, 400, 1), seg(-9, -8, 400, -8), seg(3, 900, 3, 901)), teeth(49), q(1, 1)); !ok || !slices.Equal(got, []int64{0}) {
		t.Error("teeth", got, ok)
	}
}

func TestGougesRefused(t *testing.T) {
	path := segs(seg(0, 0, 3, 0), seg(3, 0, 3, 4))
	refused := func(name any, path []impl.Seg, keep impl.Region) {
		t.Helper()
		if got, ok := impl.Gouges(path, keep, q(1, 1)); ok || len(got) != 0 {
			t.Error(name, "is gouged:", got, ok)
		}
	}
	for name, loops := range notOutlines() {
		refused(name, path, impl.Region{Loops: loops})
		refused(name, nil, impl.Region{Loops: loops})
	}
	for _, r := range brokenRegions() {
		refused(r, path, r)
	}
}

type pathCase struct {
	name        string
	stock, keep impl.Region
	tool, step  impl.Q
	want        []impl.Seg
}

func pathCases(t *testing.T) []pathCase {
	stock, one, none := region(box(0, 0, 6, 6)), q(1, 1), impl.Region{}
	in := region(box(2, 2, 4, 4))
	all := segs(seg(0, 0, 6, 0), seg(6, 3, 0, 3), seg(0, 6, 6, 6))
	frame := made(t, box(1, 1, 11, 11), box(4, 4, 8, 8))
	slot := made(t, box(1, 1, 11, 11), box(4, 5, 8, 7))
	wide := region(box(-2, -2, 14, 14))
	return []pathCase{
		{"inside", stock, in, one, q(3, 1), segs(seg(0, 0, 6, 0), seg(6, 3, 5, 3), seg(1, 3, 0, 3), seg(0, 6, 6, 6))},
		{"inside, with no tool", stock, in, q(0, 1), q(3, 1), segs(seg(0, 0, 6, 0), seg(6, 3, 4, 3), seg(2, 3, 0, 3), seg(0, 6, 6, 6))},
		{"inside, along it", stock, in, one, q(5, 1), segs(seg(0, 0, 6, 0), seg(6, 5, 0, 5))},
		{"to the edge", stock, in, q(2, 1), q(3, 1), nil},
		{"over the edge", stock, region(box(4, 2, 9, 4)), one, q(3, 1), segs(seg(0, 0, 6, 0), seg(3, 3, 0, 3), seg(0, 6, 6, 6))},
		{"outside", stock, region(box(20, 0, 21, 5)), one, q(3, 1), all},
		{"outside, near", stock, region(box(7, 2, 9, 4)), q(2, 1), q(3, 1), segs(seg(0, 0, 5, 0), seg(5, 3, 0, 3), seg(0, 6, 5, 6))},
		{"outside, touching when grown", stock, region(box(7, 2, 9, 4)), one, q(3, 1), all},
		{"nothing kept", stock, none, one, q(3, 1), all},
		{"nothing kept, with no tool", stock, none, q(0, 1), q(3, 1), all},
		{"all kept", stock, stock, q(0, 1), one, nil},
		{"all kept, with a tool", stock, stock, one, one, nil},
		{"more than all", stock, region(box(-1, -1, 7, 7)), q(0, 1), one, nil},
		{"no stock", none, in, one, one, nil},
		{"no stock, nothing kept", none, none, one, one, nil},
		{"a hole that the tool fits into", wide, frame, one, q(6, 1), segs(seg(-2, 0, 14, 0), seg(14, 6, 12, 6), seg(7, 6, 5, 6), seg(0, 6, -2, 6), seg(-2, 12, 14, 12))},
		{"a hole that it fits into just", wide, frame, q(2, 1), q(6, 1), segs(seg(-2, 0, -1, 0), seg(13, 0, 14, 0), seg(14, 6, 13, 6), seg(-1, 6, -2, 6), seg(-2, 12, -1, 12), seg(13, 12, 14, 12))},
		{"a hole along its slit", wide, slot, one, q(6, 1), segs(seg(-2, 0, 14, 0), seg(14, 6, 12, 6), seg(0, 6, -2, 6), seg(-2, 12, 14, 12))},
		{"a hole that it does not fit into", wide, slot, q(3, 2), q(14, 1), segs(impl.Seg{A: at(-2, 0), B: impl.V{X: q(-1, 2), Y: q(0, 1)}}, impl.Seg{A: impl.V{X: q(25, 2), Y: q(0, 1)}, B: at(14, 0)}, seg(14, 14, -2, 14))},
		{"two parts of stock", region(box(0, 0, 2, 2), box(4, 0, 6, 2)), region(box(0, 3, 9, 4)), one, one, segs(seg(0, 0, 2, 0), seg(4, 0, 6, 0), seg(6, 1, 4, 1), seg(2, 1, 0, 1), seg(0, 2, 2, 2), seg(4, 2, 6, 2))},
		{"a slant", region(box(0, 0, 8, 4)), region(lp(0, 0, 4, 4, 0, 4)), one, q(2, 1), segs(seg(2, 0, 8, 0), seg(8, 2, 4, 2), seg(5, 4, 8, 4))},
	}
}

func TestPathsByHand(t *testing.T) {
	for _, c := range pathCases(t) {
		if got, ok := impl.Path(c.stock, c.keep, c.tool, c.step); !ok || !slices.Equal(got, c.want) {
			t.Error(c.name, got, ok, "not", c.want)
		}
		checkPath(t, c.name, c.stock, c.keep, c.tool, c.step)
	}
}

// checkPath holds a path against the steps that the document names, and asks that no move of it gouges.
func checkPath(t *testing.T, name any, stock, keep impl.Region, tool, step impl.Q) ([]impl.Seg, bool) {
	t.Helper()
	grown, ok1 := impl.Grow(keep, tool)
	free, ok2 := impl.Both(stock, grown, impl.OpLess)
	want, ok3 := impl.Fill(free, step)
	got, ok := impl.Path(stock, keep, tool, step)
	if fine := ok1 && ok2 && ok3; ok != fine || fine && !slices.Equal(got, want) || !fine && len(got) > 0 {
		t.Fatal(name, stock, keep, "with", tool, step, "has a path", got, ok, "not", want, ok1, ok2, ok3)
	}
	if tool.Num == 0 {
		return got, ok
	}
	for part := range slices.Chunk(got, 60) {
		if bad, fine := impl.Gouges(part, keep, tool); !fine || len(bad) > 0 {
			t.Fatal(name, stock, keep, "with", tool, step, "gouges", bad, "of", part)
		}
	}
	for _, m := range got {
		if in, fine := impl.ClipSeg(stock, m); !fine || !slices.Equal(in, segs(m)) {
			t.Fatal(name, stock, keep, "with", tool, step, "has a move", m, "out of the stock")
		}
	}
	return got, ok
}

func TestPathsMany(t *testing.T) {
	t.Parallel()
	moves, bad := 0, 0
	for kind := range spotKinds {
		s := &shapes{spots{dice(1590 + kind), kind}}
		for range []int{80, 40, 20, 20, 20}[kind] {
			stock, ok1 := impl.MakeRegion(s.loops())
			keep, ok2 := impl.MakeRegion(s.loops())
			if !ok1 || !ok2 {
				continue
			}
			if kind < 2 && s.next()%2 == 0 {
				stock = region(box(-4, -4, 4, 4))
			}
			tool, fine1 := impl.QMul(s.coord(), q(1, 2+int64(s.next()%4)))
			step, fine2 := impl.QMul(s.coord(), q(1, 1+int64(s.next()%3)))
			tool.Num, step.Num = max(tool.Num, -tool.Num), max(step.Num, -step.Num)
			if !fine1 || !fine2 || step.Num == 0 {
				continue
			}
			list, ok := checkPath(t, kind, stock, keep, tool, step)
			moves += len(list)
			if !ok {
				bad++
			}
		}
	}
	if moves < 300 || bad < 10 {
		t.Error("too few of a kind:", moves, bad)
	}
}

// A path of each step that may be refused, and of neighbours that are not.
func TestPathsNot(t *testing.T) {
	wide, one := region(box(-9, -9, 99, 99)), q(1, 1)
	many := made(t, threeAndFour(16, 5)...)
	more := made(t, threeAndFour(17, 4)...)
	flat, low := flatAndLow()
	for _, c := range []struct {
		name        string
		stock, keep impl.Region
		tool, step  impl.Q
		fine        bool
	}{
		{"grown to 100 places, with 4 for the stock", wide, many, q(1, 2), q(30, 1), false},
		{"grown to 100 places, outside", region(box(1000, 0, 1001, 1)), many, q(1, 2), one, true},
		{"grown to more than 100 places", region(box(1000, 0, 1001, 1)), more, q(1, 2), one, false},
		{"not grown", region(box(1000, 0, 1001, 1)), more, q(0, 1), one, true},
		{"grown to more than 100 places, no stock", impl.Region{}, more, q(1, 2), one, false},
		{"grown over the limit", impl.Region{}, region(box(0, 0, top, 1)), one, one, false},
		{"grown to the limit", impl.Region{}, region(box(0, 0, top-1, 1)), one, one, true},
		{"a place of what is left that is none", flat, low, q(0, 1), q(1, 2), false},
		{"a place that is none and lies in it", low, flat, q(1, 1), one, true},
		{"400 lines", region(box(0, 0, 2, 399)), region(box(5, 0, 6, 1)), one, one, true},
		{"401 lines", region(box(0, 0, 2, 400)), region(box(5, 0, 6, 1)), one, one, false},
		{"400 lines left", region(box(0, 0, 2, 403)), region(box(-1, 1, 3, 3)), one, one, true},
		{"401 lines left", region(box(0, 0, 2, 404)), region(box(-1, 1, 3, 3)), one, one, false},
	} {
		if _, ok := checkPath(t, c.name, c.stock, c.keep, c.tool, c.step); ok != c.fine {
			t.Error(c.name, ok)
		}
	}
}

func TestPathsRefused(t *testing.T) {
	clean, other := region(box(0, 0, 6, 6)), region(box(2, 2, 4, 4))
	refused := func(name any, stock, keep impl.Region, tool, step impl.Q) {
		t.Helper()
		if got, ok := impl.Path(stock, keep, tool, step); ok || len(got) > 0 {
			t.Error(name, "has a path:", got, ok)
		}
	}
	for name, loops := range notOutlines() {
		bad := impl.Region{Loops: loops}
		for _, fine := range []impl.Region{clean, {}} {
			refused(name+" for stock", bad, fine, q(1, 1), q(1, 1))
			refused(name+" kept", fine, bad, q(1, 1), q(1, 1))
			refused(name+" kept, with no tool", fine, bad, q(0, 1), q(1, 1))
		}
	}
	for _, bad := range brokenRegions() {
		refused("a broken stock", bad, other, q(1, 1), q(1, 1))
		refused("a broken one kept", clean, bad, q(1, 1), q(1, 1))
	}
	for _, pair := range [][2]impl.Region{{clean, other}, {clean, {}}, {{}, other}, {{}, {}}, {clean, clean}} {
		for _, bad := range append(brokenFractions(), q(-1, 1), q(-1, top), q(-top, 1)) {
			refused("a broken tool", pair[0], pair[1], bad, q(1, 1))
			refused("a broken step", pair[0], pair[1], q(1, 1), bad)
			refused("a broken step, with no tool", pair[0], pair[1], q(0, 1), bad)
		}
		refused("no step", pair[0], pair[1], q(1, 1), q(0, 1))
	}
}
