package tests

import (
	"math/big"
	"slices"
	"testing"

	"loop.example/g00022/impl"
)

// Promise 10: regions grown and shrunk.

// meetsSquare goes along e, and keeps what lies between the two upright lines and the two level ones at d from p.
func meetsSquare(p point, d *big.Rat, e pointEdge) bool {
	from, to := new(big.Rat), big.NewRat(1, 1)
	for _, c := range [][3]*big.Rat{{p.x, e.a.x, e.b.x}, {p.y, e.a.y, e.b.y}} {
		low, high, way := minusRat(minusRat(c[0], d), c[1]), minusRat(plusRat(c[0], d), c[1]), minusRat(c[2], c[1])
		switch way.Sign() {
		case 0:
			if low.Sign() > 0 || high.Sign() < 0 {
				return false
			}
			continue
		case -1:
			low, high = high, low
		}
		from = slices.MaxFunc([]*big.Rat{from, new(big.Rat).Quo(low, way)}, (*big.Rat).Cmp)
		to = slices.MinFunc([]*big.Rat{to, new(big.Rat).Quo(high, way)}, (*big.Rat).Cmp)
	}
	return from.Cmp(to) <= 0
}

func squareAround(p point, d *big.Rat) []point {
	left, right, low, high := minusRat(p.x, d), plusRat(p.x, d), minusRat(p.y, d), plusRat(p.y, d)
	return []point{{left, low}, {right, low}, {right, high}, {left, high}}
}

// wantOffsets tells what r should be grown and shrunk, by the squares of places on both sides of all that could be border: the
// ways of the square's four corners along the edges, and the square at each corner.
func wantOffsets(r impl.Region, by impl.Q) (grown, shrunk [][]impl.V, fine1, fine2 bool) {
	if by.Num == 0 {
		return r.Loops, r.Loops, true, true
	}
	d, edges := rat(by), edgesOf(pointLoops(r.Loops))
	var lines []pointEdge
	for _, e := range edges {
		from, to := squareAround(e.a, d), squareAround(e.b, d)
		lines = append(lines, edgesOf([][]point{from})...)
		for i := range from {
			lines = append(lines, pointEdge{from[i], to[i]})
		}
	}
	told := func(p point) int {
		if slices.ContainsFunc(edges, func(e pointEdge) bool { return meetsSquare(p, d, e) }) {
			return impl.WhereOn
		}
		if isOddly(p, edges) {
			return impl.WhereIn
		}
		return impl.WhereOut
	}
	var outer, inner []pointEdge
	for _, p := range smallPieces(lines) {
		back := pointEdge{p.b, p.a}
		left, right := told(leftOf(p, lines)), told(leftOf(back, lines))
		if left > right {
			back, p, left, right = p, back, right, left
		}
		// Now there is more on the right.
		if left == impl.WhereOut && right != impl.WhereOut {
			outer = append(outer, back)
		}
		if left != impl.WhereIn && right == impl.WhereIn {
			inner = append(inner, back)
		}
	}
	grown, fine1 = toldOutline(outer)
	shrunk, fine2 = toldOutline(inner)
	return grown, shrunk, fine1, fine2
}

func checkOffsets(t *testing.T, r impl.Region, d impl.Q) (grown, shrunk impl.Region, ok1, ok2 bool) {
	t.Helper()
	want1, want2, fine1, fine2 := wantOffsets(r, d)
	grown, ok1 = impl.Grow(r, d)
	if ok1 != fine1 || !sameLoops(grown.Loops, want1) {
		t.Fatal(r, "grown by", d, "is", grown, ok1, "not", want1, fine1)
	}
	shrunk, ok2 = impl.Shrink(r, d)
	if ok2 != fine2 || !sameLoops(shrunk.Loops, want2) {
		t.Fatal(r, "shrunk by", d, "is", shrunk, ok2, "not", want2, fine2)
	}
	for _, o := range []impl.Region{grown, shrunk} {
		if !impl.RegionOk(o) {
			t.Fatal(r, "by", d, "is", o, "which is no outline")
		}
	}
	return grown, shrunk, ok1, ok2
}

// checkBackAndForth asks for what follows: Shrink of Grow has all of the region, Grow of Shrink is in it.
func checkBackAndForth(t *testing.T, r impl.Region, d impl.Q) {
	t.Helper()
	if grown, ok := impl.Grow(r, d); ok {
		back, ok := impl.Shrink(grown, d)
		if ok && impl.Within(r, back) != 1 || impl.Within(r, grown) != 1 {
			t.Fatal(r, "grown and shrunk by", d, "is", back)
		}
	}
	if shrunk, ok := impl.Shrink(r, d); ok {
		back, ok := impl.Grow(shrunk, d)
		if ok && impl.Within(back, r) != 1 || impl.Within(shrunk, r) != 1 {
			t.Fatal(r, "shrunk and grown by", d, "is", back)
		}
	}
}

type offsetCase struct {
	name          string
	r             impl.Region
	d             impl.Q
	grown, shrunk [][]impl.V
}

func offsetCases() []offsetCase {
	one := q(1, 1)
	hole := func(left, low, right, high int64) []impl.V { return begun(backward(box(left, low, right, high)), 3) }
	big := box(0, 0, 10, 10)
	el, notch := lp(0, 0, 6, 0, 6, 3, 3, 3, 3, 6, 0, 6), lp(0, 0, 6, 0, 6, 6, 3, 2, 0, 6)
	bell := lp(0, 0, 4, 0, 4, 1, 6, 1, 6, 0, 10, 0, 10, 4, 6, 4, 6, 3, 4, 3, 4, 4, 0, 4)
	return []offsetCase{
		{"the empty region", impl.Region{}, one, nil, nil},
		{"the empty region, by 0", impl.Region{Loops: [][]impl.V{}}, q(0, 1), nil, nil},
		{"by 0", region(el), q(0, 1), lps(el), lps(el)},
		{"by 0, with a hole that touches", region(lp(0, 0, 2, 0, 1, 1, 3, 1, 2, 0, 4, 0, 4, 4, 0, 4)), q(0, 1), lps(lp(0, 0, 2, 0, 1, 1, 3, 1, 2, 0, 4, 0, 4, 4, 0, 4)), lps(lp(0, 0, 2, 0, 1, 1, 3, 1, 2, 0, 4, 0, 4, 4, 0, 4))},
		{"a rectangle", region(box(0, 0, 4, 3)), one, lps(box(-1, -1, 5, 4)), lps(box(1, 1, 3, 2))},
		{"a rectangle, a bare line left", region(box(0, 0, 4, 2)), one, lps(box(-1, -1, 5, 3)), nil},
		{"upright, a bare line left", region(box(0, 0, 2, 4)), one, lps(box(-1, -1, 3, 5)), nil},
		{"a square, a place left", region(box(0, 0, 2, 2)), one, lps(box(-1, -1, 3, 3)), nil},
		{"a rectangle, nothing left", region(box(0, 0, 4, 2)), q(2, 1), lps(box(-2, -2, 6, 4)), nil},
		{"a little less than a bare line", region(box(0, 0, 4, 2)), q(101, 100), lps([]impl.V{{X: q(-101, 100), Y: q(-101, 100)}, {X: q(501, 100), Y: q(-101, 100)}, {X: q(501, 100), Y: q(301, 100)}, {X: q(-101, 100), Y: q(301, 100)}}), nil},
		{"a little more than a bare line", region(box(0, 0, 4, 2)), q(99, 100), lps([]impl.V{{X: q(-99, 100), Y: q(-99, 100)}, {X: q(499, 100), Y: q(-99, 100)}, {X: q(499, 100), Y: q(299, 100)}, {X: q(-99, 100), Y: q(299, 100)}}),
			lps([]impl.V{{X: q(99, 100), Y: q(99, 100)}, {X: q(301, 100), Y: q(99, 100)}, {X: q(301, 100), Y: q(101, 100)}, {X: q(99, 100), Y: q(101, 100)}})},
		{"a triangle", region(lp(0, 0, 6, 0, 0, 6)), one, lps(lp(-1, -1, 7, -1, 7, 1, 1, 7, -1, 7)), lps(lp(1, 1, 3, 1, 1, 3))},
		{"a triangle, a place left", region(lp(0, 0, 4, 0, 0, 4)), one, lps(lp(-1, -1, 5, -1, 5, 1, 1, 5, -1, 5)), nil},
		{"a square on its corner", region(lp(0, 4, 4, 0, 8, 4, 4, 8)), one, lps(lp(-1, 3, 3, -1, 5, -1, 9, 3, 9, 5, 5, 9, 3, 9, -1, 5)), lps(lp(2, 4, 4, 2, 6, 4, 4, 6))},
		{"not convex", region(el), one, lps(lp(-1, -1, 7, -1, 7, 4, 4, 4, 4, 7, -1, 7)), lps(lp(1, 1, 5, 1, 5, 2, 2, 2, 2, 5, 1, 5))},
		{"with a notch", region(notch), one, lps([]impl.V{at(-1, -1), at(7, -1), at(7, 7), at(5, 7), {X: q(3, 1), Y: q(13, 3)}, at(1, 7), at(-1, 7)}),
			lps([]impl.V{at(1, 1), at(2, 1), {X: q(1, 1), Y: q(7, 3)}}, []impl.V{at(4, 1), at(5, 1), {X: q(5, 1), Y: q(7, 3)}})},
		{"a hole that stays", region(big, hole(3, 3, 7, 7)), one, lps(box(-1, -1, 11, 11), hole(4, 4, 6, 6)), lps(box(1, 1, 9, 9), hole(2, 2, 8, 8))},
		{"a hole that is filled just", region(big, hole(3, 3, 5, 5)), one, lps(box(-1, -1, 11, 11)), lps(box(1, 1, 9, 9), hole(2, 2, 6, 6))},
		{"a hole of which a bare line would be left", region(big, hole(3, 3, 5, 7)), one, lps(box(-1, -1, 11, 11)), lps(box(1, 1, 9, 9), hole(2, 2, 6, 8))},
		{"a hole that is filled", region(big, hole(4, 4, 5, 5)), one, lps(box(-1, -1, 11, 11)), lps(box(1, 1, 9, 9), hole(3, 3, 6, 6))},
		{"a hole with a neck", region(box(-3, -3, 13, 7), begun(backward(bell), 11)), one, lps(box(-4, -4, 14, 8), hole(1, 1, 3, 3), hole(7, 1, 9, 3)),
			lps(box(-2, -2, 12, 6), hole(-1, -1, 11, 5))},
		{"a neck", region(bell), one, lps(box(-1, -1, 11, 5)), lps(box(1, 1, 3, 3), box(7, 1, 9, 3))},
		{"a neck that holds", region(lp(0, 0, 8, 0, 8, 2, 12, 2, 12, 0, 20, 0, 20, 8, 12, 8, 12, 6, 8, 6, 8, 8, 0, 8)), one,
			lps(lp(-1, -1, 9, -1, 9, 1, 11, 1, 11, -1, 21, -1, 21, 9, 11, 9, 11, 7, 9, 7, 9, 9, -1, 9)), lps(lp(1, 1, 7, 1, 7, 3, 13, 3, 13, 1, 19, 1, 19, 7, 13, 7, 13, 5, 7, 5, 7, 7, 1, 7))},
		{"touching along an edge", region(box(0, 0, 3, 3), box(5, 0, 8, 3)), one, lps(box(-1, -1, 9, 4)), lps(box(1, 1, 2, 2), box(6, 1, 7, 2))},
		{"touching along a part of an edge", region(box(0, 0, 3, 3), box(5, 2, 8, 5)), one, lps(lp(-1, -1, 4, -1, 4, 1, 9, 1, 9, 6, 4, 6, 4, 4, -1, 4)), lps(box(1, 1, 2, 2), box(6, 3, 7, 4))},
		{"touching at a corner", region(box(0, 0, 3, 3), box(5, 5, 8, 8)), one, lps(box(-1, -1, 4, 4), box(4, 4, 9, 9)), lps(box(1, 1, 2, 2), box(6, 6, 7, 7))},
		{"growing together", region(box(0, 0, 3, 3), box(4, 0, 7, 3)), one, lps(box(-1, -1, 8, 4)), lps(box(1, 1, 2, 2), box(5, 1, 6, 2))},
		{"apart still", region(box(0, 0, 3, 3), box(6, 0, 9, 3)), one, lps(box(-1, -1, 4, 4), box(5, -1, 10, 4)), lps(box(1, 1, 2, 2), box(7, 1, 8, 2))},
		{"touching at a place before", region(box(0, 0, 3, 3), box(3, 3, 6, 6)), one, lps(lp(-1, -1, 4, -1, 4, 2, 7, 2, 7, 7, 2, 7, 2, 4, -1, 4)), lps(box(1, 1, 2, 2), box(4, 4, 5, 5))},
		{"a ring of four that touch", region(box(0, 4, 4, 8), box(4, 0, 8, 4), box(4, 8, 8, 12), box(8, 4, 12, 8)), one,
			lps(lp(-1, 3, 3, 3, 3, -1, 9, -1, 9, 3, 13, 3, 13, 9, 9, 9, 9, 13, 3, 13, 3, 9, -1, 9), hole(5, 5, 7, 7)), lps(box(1, 5, 3, 7), box(5, 1, 7, 3), box(5, 9, 7, 11), box(9, 5, 11, 7))},
		{"a hole that grows to the outer edge", region(big, hole(2, 4, 4, 6)), one, lps(box(-1, -1, 11, 11)), lps(lp(1, 1, 9, 1, 9, 9, 1, 9, 1, 7, 5, 7, 5, 3, 1, 3))},
		{"a hole that grows over the outer edge", region(big, hole(1, 4, 3, 6)), one, lps(box(-1, -1, 11, 11)), lps(lp(1, 1, 9, 1, 9, 9, 1, 9, 1, 7, 4, 7, 4, 3, 1, 3))},
		{"a hole that parts", region(big, hole(1, 4, 9, 6)), one, lps(box(-1, -1, 11, 11)), lps(box(1, 1, 9, 3), box(1, 7, 9, 9))},
		{"holes that grow together", region(big, hole(2, 4, 4, 6), hole(5, 4, 7, 6)), one, lps(box(-1, -1, 11, 11)), lps(lp(1, 1, 9, 1, 9, 9, 1, 9, 1, 7, 8, 7, 8, 3, 1, 3))},
		{"holes that come to touch along an edge", region(box(0, 0, 14, 10), hole(3, 4, 5, 6), hole(7, 4, 9, 6)), one, lps(box(-1, -1, 15, 11)), lps(box(1, 1, 13, 9), hole(2, 3, 10, 7))},
		{"holes that come to touch at a corner", region(box(0, 0, 14, 14), hole(3, 3, 5, 5), hole(7, 7, 9, 9)), one, lps(box(-1, -1, 15, 15)), lps(box(1, 1, 13, 13), lp(2, 2, 2, 6, 6, 6, 6, 10, 10, 10, 10, 6, 6, 6, 6, 2))},
		{"an island in a hole", region(box(0, 0, 20, 20), hole(4, 4, 16, 16), box(8, 8, 12, 12)), one, lps(box(-1, -1, 21, 21), hole(5, 5, 15, 15), box(7, 7, 13, 13)),
			lps(box(1, 1, 19, 19), hole(3, 3, 17, 17), box(9, 9, 11, 11))},
		{"great numbers", region(box(-top/2, -top/2, top/2, top/2)), q(top/2, 1), lps(box(-top, -top, top, top)), nil},
		{"great numbers, aslant", region(lp(0, 0, top/2, 0, 0, top/2)), q(top/4, 1), lps(lp(-top/4, -top/4, 3*(top/4), -top/4, 3*(top/4), top/4, top/4, 3*(top/4), -top/4, 3*(top/4))), nil},
		{"great numbers, by 0", region(lp(-top, -top, top, -top, -top, top)), q(0, 1), lps(lp(-top, -top, top, -top, -top, top)), lps(lp(-top, -top, top, -top, -top, top))},
		{"small numbers", region([]impl.V{at(0, 0), {X: q(1, top/2), Y: q(0, 1)}, {X: q(1, top/2), Y: q(1, top/2)}, {X: q(0, 1), Y: q(1, top/2)}}), q(1, top),
			lps([]impl.V{{X: q(-1, top), Y: q(-1, top)}, {X: q(3, top), Y: q(-1, top)}, {X: q(3, top), Y: q(3, top)}, {X: q(-1, top), Y: q(3, top)}}), nil},
	}
}

func TestOffsetsByHand(t *testing.T) {
	t.Parallel()
	for _, c := range offsetCases() {
		grown, ok1 := impl.Grow(c.r, c.d)
		shrunk, ok2 := impl.Shrink(c.r, c.d)
		if !ok1 || !sameLoops(grown.Loops, c.grown) {
			t.Error(c.name, "grown", grown, ok1, "not", c.grown)
		}
		if !ok2 || !sameLoops(shrunk.Loops, c.shrunk) {
			t.Error(c.name, "shrunk", shrunk, ok2, "not", c.shrunk)
		}
		checkBackAndForth(t, c.r, c.d)
		if countPlaces(c.r.Loops) < 10 {
			checkOffsets(t, c.r, c.d)
		}
	}
}

func TestOffsetsMany(t *testing.T) {
	t.Parallel()
	grown, refused, left, gone := 0, 0, 0, 0
	for kind := range spotKinds {
		s := &shapes{spots{dice(1010 + kind), kind}}
		for range []int{50, 24, 8, 8, 8}[kind] {
			r, ok := impl.MakeRegion(s.loops())
			// Parts bring corners together that are on the grid.
			d, fine := impl.QMul(s.coord(), q(1, 2+int64(s.next()%4)))
			d.Num = max(d.Num, -d.Num)
			// Big numbers take their time.
			if !ok || !fine || countPlaces(r.Loops) > []int{9, 7, 5, 5, 5}[kind] {
				continue
			}
			_, shrunk, ok1, ok2 := checkOffsets(t, r, d)
			checkBackAndForth(t, r, d)
			switch {
			case ok1 && ok2:
				grown++
			default:
				refused++
			}
			if len(shrunk.Loops) > 0 {
				left++
			} else {
				gone++
			}
		}
	}
	if grown < 40 || refused < 5 || left < 15 || gone < 15 {
		t.Error("too few of a kind", grown, refused, left, gone)
	}
}

// sumOfParts is what a region is when each of its strips is grown alone.
func sumOfParts(r impl.Region, d impl.Q) (impl.Region, bool) {
	less := q(-d.Num, d.Den)
	box := []impl.V{{X: less, Y: less}, {X: d, Y: less}, {X: d, Y: d}, {X: less, Y: d}}
	strips, ok := impl.Strips(r)
	if !ok {
		return impl.Region{}, false
	}
	var parts []impl.Region
	for _, strip := range strips {
		part, _ := impl.Hull2(strip)
		sum, ok := impl.Mink(part, box)
		if !ok {
			return impl.Region{}, false
		}
		parts = append(parts, region(sum))
	}
	return impl.All(parts)
}

// TestOffsetsBySets has three other ways to the same: the sums of strips, twice a part of the way, and what is left of a frame
// when all around the region grows.
func TestOffsetsBySets(t *testing.T) {
	t.Parallel()
	frame, summed, twice, framed := region(box(-50, -50, 50, 50)), 0, 0, 0
	for kind := range 2 {
		s := &shapes{spots{dice(1020 + kind), kind}}
		for range 40 {
			r, _ := impl.MakeRegion(s.loops())
			d, _ := impl.QOf(1+int64(s.next()%3), 2)
			e := q(1, 1+int64(s.next()%4))
			grown, ok1 := impl.Grow(r, d)
			if sum, ok := sumOfParts(r, d); ok && ok1 {
				summed++
				if !sameLoops(sum.Loops, grown.Loops) {
					t.Fatal(r, "grown by", d, grown, "not", sum)
				}
			}
			shrunk, ok2 := impl.Shrink(r, d)
			both, _ := impl.QAdd(d, e)
			for _, step := range []struct {
				call func(impl.Region, impl.Q) (impl.Region, bool)
				half impl.Region
				ok   bool
			}{{impl.Grow, grown, ok1}, {impl.Shrink, shrunk, ok2}} {
				two, ok3 := step.call(step.half, e)
				once, ok4 := step.call(r, both)
				if !step.ok || !ok3 || !ok4 {
					continue
				}
				twice++
				if !sameLoops(two.Loops, once.Loops) {
					t.Fatal(r, "by", d, "and", e, two, "not", once)
				}
			}
			around, ok := impl.Both(frame, r, impl.OpLess)
			more, ok3 := impl.Grow(around, d)
			rest, ok4 := impl.Both(frame, more, impl.OpLess)
			if ok && ok2 && ok3 && ok4 {
				framed++
				if !sameLoops(rest.Loops, shrunk.Loops) {
					t.Fatal(r, "shrunk by", d, shrunk, "not", rest)
				}
			}
		}
	}
	if summed < 40 || twice < 80 || framed < 50 {
		t.Error("too few of a kind", summed, twice, framed)
	}
}

// threeAndFour are triangles, and rectangles behind them, each far from all others.
func threeAndFour(threes, fours int64) [][]impl.V {
	var list [][]impl.V
	for i := range threes + fours {
		x, y := 10*(i%6), 10*(i/6)
		if i < threes {
			list = append(list, lp(x, y, x+3, y, x, y+4))
		} else {
			list = append(list, box(x, y, x+3, y+4))
		}
	}
	return list
}

func TestOffsetsMostPlaces(t *testing.T) {
	// A triangle that grows has five places then, and so has a hole that grows.
	for _, c := range []struct{ threes, fours, places int64 }{{20, 0, 100}, {16, 5, 100}, {0, 25, 100}, {17, 4, 0}, {21, 0, 0}, {33, 0, 0}} {
		list := threeAndFour(c.threes, c.fours)
		if got, ok := impl.Grow(made(t, list...), q(1, 2)); ok != (c.places > 0) || countPlaces(got.Loops) != int(c.places) {
			t.Error(c, "grown has", countPlaces(got.Loops), ok)
		}
		if got, ok := impl.Shrink(made(t, list...), q(1, 2)); !ok || countPlaces(got.Loops) != countPlaces(list) {
			t.Error(c, "shrunk has", countPlaces(got.Loops), ok)
		}
		if c.fours == 0 {
			continue
		}
		list[len(list)-1] = box(-9, -9, 99, 99)
		if got, ok := impl.Shrink(made(t, list...), q(1, 2)); ok != (c.places > 0) || countPlaces(got.Loops) != int(c.places) {
			t.Error(c, "holes, shrunk, has", countPlaces(got.Loops), ok)
		}
		if got, ok := impl.Grow(made(t, list...), q(1, 2)); !ok || countPlaces(got.Loops) != countPlaces(list) {
			t.Error(c, "holes, grown, has", countPlaces(got.Loops), ok)
		}
	}
	// Thousands of places cross on the way, and are covered in the end.
	var comb []impl.V
	for i := range int64(49) {
		comb = append(comb, at(2*i, 0), at(2*i+1, 1000))
	}
	r := made(t, append(comb, at(98, 2000), at(0, 2000)))
	if got, ok := impl.Grow(r, q(40, 1)); !ok || !sameLoops(got.Loops, lps(lp(-40, -40, 136, -40, 138, 1960, 138, 2040, -40, 2040))) {
		t.Error("a comb grown", got, ok)
	}
	if got, ok := impl.Shrink(r, q(40, 1)); !ok || !sameLoops(got.Loops, lps([]impl.V{at(40, 1040), at(57, 1040), {X: q(1448, 25), Y: q(1960, 1)}, at(40, 1960)})) {
		t.Error("a comb shrunk", got, ok)
	}
}

// TestOffsetsNoPlace: only the places of the outline have to be Vs.
func TestOffsetsNoPlace(t *testing.T) {
	fine := func(name string, r impl.Region, d impl.Q, grown, shrunk bool) {
		t.Helper()
		if _, _, ok1, ok2 := checkOffsets(t, r, d); ok1 != grown || ok2 != shrunk {
			t.Error(name, ok1, ok2)
		}
	}
	const half = top / 2
	fine("to the limit", region(box(1-top, 1-top, top-1, top-1)), q(1, 1), true, true)
	fine("over the limit", region(box(1-top, 1-top, top, top-1)), q(1, 1), false, true)
	fine("under the limit", region(box(1-top, -top, top-1, top-1)), q(1, 1), false, true)
	fine("to the limit, over the limit", region(box(0, 0, half, half)), q(half, 1), true, true)
	fine("over the limit by much", region(box(0, 0, half, half)), q(top, 1), false, true)
	fine("too small a part", region(box(0, 0, 2, 2)), q(1, top), false, false)
	fine("as small a part as can be", region(box(-1, -1, 1, 1)), q(1, top), false, true)
	fine("a part of a small one", region([]impl.V{at(0, 0), {X: q(1, top), Y: q(0, 1)}, {X: q(1, top), Y: q(1, top)}, {X: q(0, 1), Y: q(1, top)}}), q(1, top-1), false, true)
	// Slanted edges come to cross at places that are no Vs, until a notch is filled, or nothing is left.
	tip := impl.V{X: q(1000000007, 250000000), Y: q(998244353, 500000000)}
	notch := region([]impl.V{at(0, 0), at(8, 0), at(8, 8), tip, at(0, 7)})
	fine("in a notch", notch, q(1, 3), false, true)
	fine("a notch filled", notch, q(5, 1), true, true)
	hill := region([]impl.V{at(0, -4), at(8, -3), tip})
	fine("on a hill", hill, q(1, 3), true, false)
	fine("nothing left of a hill", hill, q(5, 1), true, true)
}

func checkNoOffset(t *testing.T, name any, r impl.Region, d impl.Q) {
	t.Helper()
	if got, ok := impl.Grow(r, d); ok || got.Loops != nil {
		t.Error(name, "grows to", got, ok)
	}
	if got, ok := impl.Shrink(r, d); ok || got.Loops != nil {
		t.Error(name, "shrinks to", got, ok)
	}
}

func TestOffsetsRefused(t *testing.T) {
	clean := region(box(0, 0, 6, 6), lp(1, 1, 1, 5, 5, 5, 5, 1))
	for name, loops := range notOutlines() {
		for _, d := range []impl.Q{q(0, 1), q(1, 2), q(9, 1)} {
			checkNoOffset(t, name, impl.Region{Loops: loops}, d)
		}
	}
	for _, r := range []impl.Region{clean, {}} {
		for _, d := range append(brokenFractions(), q(-1, 1), q(-1, top), q(-top, 1)) {
			checkNoOffset(t, d, r, d)
		}
	}
	for _, r := range brokenRegions() {
		checkNoOffset(t, r, r, q(1, 3))
		checkNoOffset(t, r, r, q(0, 1))
	}
}
