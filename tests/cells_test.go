package tests

import (
	"math/big"
	"slices"
	"testing"

	"loop.example/g00022/impl"
)

// Promise 8.

// wantCorners tries all crossings of the lines that might shut in the cell of list[i], and keeps those that are in the box and
// not farther from list[i] than from any other: each of these is a corner, and nothing else is. None when they are on one line.
func wantCorners(list []point, i int, lo, hi point) []point {
	lines := edgesOf([][]point{{lo, {hi.x, lo.y}, hi, {lo.x, hi.y}}})
	for j, p := range list {
		if j != i {
			m := between(list[i], p, big.NewRat(1, 2))
			lines = append(lines, pointEdge{m, point{minusRat(m.x, minusRat(p.y, m.y)), plusRat(m.y, minusRat(p.x, m.x))}})
		}
	}
	isOut := func(p point) bool {
		far := func(o point) bool { return square(p, o).Cmp(square(p, list[i])) < 0 }
		return p.x.Cmp(lo.x) < 0 || p.y.Cmp(lo.y) < 0 || p.x.Cmp(hi.x) > 0 || p.y.Cmp(hi.y) > 0 || slices.ContainsFunc(list, far)
	}
	return roundLeft(crossingsOf(lines, isOut))
}

// crossingsOf tells where two lines cross, but for those that are out, in order.
func crossingsOf(lines []pointEdge, isOut func(point) bool) []point {
	var list []point
	for k, e := range lines {
		for _, f := range lines[:k] {
			beside := point{plusRat(e.a.x, minusRat(f.b.x, f.a.x)), plusRat(e.a.y, minusRat(f.b.y, f.a.y))}
			if side(e.a, e.b, beside) == 0 {
				continue
			}
			if p := crossing(e.a, e.b, f.a, f.b); !isOut(p) {
				list = append(list, p)
			}
		}
	}
	return sortedPoints(list)
}

// roundLeft puts corners of a convex loop, which are in order, so that they go round from the first one; none of those on one
// line.
func roundLeft(corners []point) []point {
	if onOneLine(corners) {
		return nil
	}
	slices.SortFunc(corners[1:], func(p, o point) int { return side(corners[0], o, p) })
	return corners
}

// placesOf is false when one is no V.
func placesOf(list []point) ([]impl.V, bool) {
	var places []impl.V
	for _, p := range list {
		v, ok := p.place()
		if !ok {
			return nil, false
		}
		places = append(places, v)
	}
	return places, true
}

func area2Of(loop []point) *big.Rat {
	area := new(big.Rat)
	for i, p := range loop {
		area = plusRat(area, p.cross(loop[(i+1)%len(loop)]))
	}
	return area
}

// haveBorder tries each edge of the one loop with each of the other.
func haveBorder(a, b []point) bool {
	for _, e := range edgesOf([][]point{a}) {
		for _, f := range edgesOf([][]point{b}) {
			if side(e.a, e.b, f.a) != 0 || side(e.a, e.b, f.b) != 0 {
				continue
			}
			one, two := sortedPoints([]point{e.a, e.b}), sortedPoints([]point{f.a, f.b})
			if haveLength(one[0], one[1], two[0], two[1]) {
				return true
			}
		}
	}
	return false
}

// cellsTold tells how many cells are refused, how many areas, and which pairs touch.
type cellsTold struct {
	refused, noArea int
	areas           []*big.Rat
	loops           [][]impl.V
	pairs           []impl.Pair
}

func checkCells(t *testing.T, list []impl.V, lo, hi impl.V) cellsTold {
	t.Helper()
	points := pointsOf(list)
	var told cellsTold
	var cells [][]point
	all := new(big.Rat)
	for i := range list {
		cell := wantCorners(points, i, pointOf(lo), pointOf(hi))
		want, fine := placesOf(cell)
		var loops [][]impl.V
		if len(want) > 0 {
			loops = lps(want)
		}
		got, ok := impl.Cell(list, int64(i), lo, hi)
		if ok != fine || !sameLoops(got.Loops, loops) {
			t.Fatal("cell", i, "of", list, "in", lo, hi, "is", got, ok, "not", want, fine)
		}
		if ok && !impl.RegionOk(got) {
			t.Fatal("cell", i, "of", list, "in", lo, hi, "is no outline:", got)
		}
		if !ok {
			told.refused++
		}
		area := area2Of(cell)
		if _, ok := asQ(area); !ok {
			told.noArea++
		}
		cells, all = append(cells, cell), plusRat(all, area)
		told.areas, told.loops = append(told.areas, area), append(told.loops, want)
	}
	wide, high := minusRat(rat(hi.X), rat(lo.X)), minusRat(rat(hi.Y), rat(lo.Y))
	if twice := timesRat(big.NewRat(2, 1), timesRat(wide, high)); len(list) > 0 && twice.Cmp(all) != 0 {
		t.Fatal("the cells that are wanted of", list, "have not the area of the box")
	}
	checkCellAreas(t, list, lo, hi, told)
	for b := range cells {
		for a := range b {
			if haveBorder(cells[a], cells[b]) {
				told.pairs = append(told.pairs, pair(int64(a), int64(b)))
			}
		}
	}
	slices.SortFunc(told.pairs, comparePairs)
	if told.refused > 0 {
		told.pairs = nil
	}
	if pairs, ok := impl.Touching(list, lo, hi); ok != (told.refused == 0) || !slices.Equal(pairs, told.pairs) {
		t.Fatal("touching of", list, "in", lo, hi, pairs, ok, "not", told.pairs)
	}
	return told
}

func checkCellAreas(t *testing.T, list []impl.V, lo, hi impl.V, told cellsTold) {
	t.Helper()
	areas, ok := impl.CellAreas(list, lo, hi)
	if fine := told.refused == 0 && told.noArea == 0; ok != fine || !ok && len(areas) > 0 || ok && len(areas) != len(list) {
		t.Fatal("areas of", list, "in", lo, hi, areas, ok, told)
	}
	for i, a := range areas {
		if want, _ := asQ(told.areas[i]); a != want {
			t.Fatal("areas of", list, "in", lo, hi, areas, "not", told.areas)
		}
	}
}

// checkPlacesOfBox: a place of the box lies in the cells of those that are nearest to it, and in no other one.
func checkPlacesOfBox(t *testing.T, list []impl.V, lo, hi, v impl.V) {
	t.Helper()
	near := impl.Nearest(list, v)
	if want := wantNearest(list, v); near != want {
		t.Fatal("nearest to", v, "of", list, near, "not", want)
	}
	p := pointOf(v)
	isOut := p.x.Cmp(rat(lo.X)) < 0 || p.y.Cmp(rat(lo.Y)) < 0 || p.x.Cmp(rat(hi.X)) > 0 || p.y.Cmp(rat(hi.Y)) > 0
	as := 0
	for _, o := range list {
		if square(p, pointOf(o)).Cmp(square(p, pointOf(list[near]))) == 0 {
			as++
		}
	}
	for i, o := range list {
		cell, ok := impl.Cell(list, int64(i), lo, hi)
		if !ok || len(cell.Loops) == 0 {
			continue
		}
		isNear := square(p, pointOf(o)).Cmp(square(p, pointOf(list[near]))) == 0
		where := impl.Where(cell, v)
		if isOut || !isNear {
			if where != impl.WhereOut {
				t.Fatal(v, "is in the cell", i, "of", list, "in", lo, hi)
			}
		} else if where == impl.WhereOut || where == impl.WhereIn && as > 1 {
			t.Fatal(v, "is not in the cell", i, "of", list, "in", lo, hi, "as it should be:", where)
		}
	}
}

type cellCase struct {
	name   string
	list   []impl.V
	lo, hi impl.V
	loops  [][]impl.V
	pairs  []impl.Pair
}

func pairsOf(ab ...int64) []impl.Pair {
	var list []impl.Pair
	for i := 0; i+1 < len(ab); i += 2 {
		list = append(list, pair(ab[i], ab[i+1]))
	}
	return list
}

func cellCases() []cellCase {
	o, f := at(0, 0), at(4, 4)
	all, none := box(0, 0, 4, 4), []impl.V(nil)
	left, right, low, high := box(0, 0, 2, 4), box(2, 0, 4, 4), box(0, 0, 4, 2), box(0, 2, 4, 4)
	return []cellCase{
		{"no place", nil, o, f, nil, nil},
		{"one within", lp(1, 1), o, f, lps(all), nil},
		{"one on the edge", lp(4, 1), o, f, lps(all), nil},
		{"one at a corner", lp(0, 4), o, f, lps(all), nil},
		{"one far outside", lp(-top, top), o, f, lps(all), nil},
		{"two, side by side", lp(1, 1, 3, 1), o, f, lps(left, right), pairsOf(0, 1)},
		{"two, the other way round", lp(3, 1, 1, 1), o, f, lps(right, left), pairsOf(0, 1)},
		{"two, one over the other", lp(1, 1, 1, 3), o, f, lps(low, high), pairsOf(0, 1)},
		{"two on the edge", lp(0, 3, 4, 3), o, f, lps(left, right), pairsOf(0, 1)},
		{"two at corners, next to one another", lp(4, 0, 4, 4), o, f, lps(low, high), pairsOf(0, 1)},
		{"two at corners: the wall goes through the two others", lp(0, 0, 4, 4), o, f, lps(lp(0, 0, 4, 0, 0, 4), lp(0, 4, 4, 0, 4, 4)), pairsOf(0, 1)},
		{"the same at the other corners", lp(4, 0, 0, 4), o, f, lps(lp(0, 0, 4, 0, 4, 4), lp(0, 0, 4, 4, 0, 4)), pairsOf(0, 1)},
		{"far outside, on both sides", lp(-998, 7, 1002, 7), o, f, lps(left, right), pairsOf(0, 1)},
		{"far outside, on one side", lp(2, 1000, 2, 1002), o, f, lps(all, none), nil},
		{"a wall through one corner of the box", lp(-1, 2, 2, 3), o, f, lps([]impl.V{o, {X: q(4, 3), Y: q(0, 1)}, at(0, 4)}, []impl.V{at(0, 4), {X: q(4, 3), Y: q(0, 1)}, at(4, 0), f}), pairsOf(0, 1)},
		{"a wall that touches a corner of the box", lp(2, 2, -2, -2), o, f, lps(all, none), nil},
		{"a wall that touches another corner", lp(6, -2, 2, 2), o, f, lps(none, all), nil},
		{"a wall along the left edge", lp(1, 1, -1, 1), o, f, lps(all, none), nil},
		{"a wall along the right edge", lp(5, 1, 3, 1), o, f, lps(none, all), nil},
		{"a wall along the lower edge", lp(1, -3, 1, 3), o, f, lps(none, all), nil},
		{"a wall along the upper edge", lp(1, 3, 1, 5), o, f, lps(all, none), nil},
		{"both along the left edge, and parted there", lp(1, 1, -1, 1, 1, 3, -1, 3), o, f, lps(low, none, high, none), pairsOf(0, 2)},
		{"beyond each edge and within", lp(2, 2, -2, 2, 2, -2, 6, 2, 2, 6), o, f, lps(all, none, none, none, none), nil},
		{"a cell within another's wall", lp(1, 1, 3, 1, 6, 1), o, f, lps(left, right, none), pairsOf(0, 1)},
		{"a wall outside of the box", lp(1, 1, 1, 9), o, f, lps(all, none), nil},
		{"a piece outside of the box", lp(1, 1, 3, 1, 1, 9, 3, 9), o, f, lps(left, right, none, none), pairsOf(0, 1)},
		{"three on a line", lp(1, 2, 2, 2, 3, 2), o, f,
			lps([]impl.V{o, {X: q(3, 2), Y: q(0, 1)}, {X: q(3, 2), Y: q(4, 1)}, at(0, 4)},
				[]impl.V{{X: q(3, 2), Y: q(0, 1)}, {X: q(5, 2), Y: q(0, 1)}, {X: q(5, 2), Y: q(4, 1)}, {X: q(3, 2), Y: q(4, 1)}},
				[]impl.V{{X: q(5, 2), Y: q(0, 1)}, at(4, 0), f, {X: q(5, 2), Y: q(4, 1)}}), pairsOf(0, 1, 1, 2)},
		{"four around a place", lp(1, 1, 3, 1, 1, 3, 3, 3), o, f, lps(box(0, 0, 2, 2), box(2, 0, 4, 2), box(0, 2, 2, 4), box(2, 2, 4, 4)), pairsOf(0, 1, 0, 2, 1, 3, 2, 3)},
		{"four around a place on the edge", lp(1, 3, 3, 3, 1, 5, 3, 5), o, f, lps(left, right, none, none), pairsOf(0, 1)},
		{"four around a corner of the box", lp(3, 3, 3, 5, 5, 3, 5, 5), o, f, lps(all, none, none, none), nil},
		{"four around a place outside", lp(3, 4, 3, 6, 5, 4, 5, 6), o, f, lps(all, none, none, none), nil},
		{"four on a circle, slanted", lp(2, 0, 4, 2, 2, 4, 0, 2), o, f,
			lps(lp(0, 0, 4, 0, 2, 2), lp(2, 2, 4, 0, 4, 4), lp(0, 4, 2, 2, 4, 4), lp(0, 0, 2, 2, 0, 4)), pairsOf(0, 1, 0, 3, 1, 2, 2, 3)},
		{"one within four", lp(2, 2, 2, 0, 4, 2, 2, 4, 0, 2), o, f,
			lps(box(1, 1, 3, 3), lp(0, 0, 4, 0, 3, 1, 1, 1), lp(3, 1, 4, 0, 4, 4, 3, 3), lp(0, 4, 1, 3, 3, 3, 4, 4), lp(0, 0, 1, 1, 1, 3, 0, 4)),
			pairsOf(0, 1, 0, 2, 0, 3, 0, 4, 1, 2, 1, 4, 2, 3, 3, 4)},
		{"the same wall for two pairs", lp(1, 0, 3, 0, 1, 4, 3, 4), o, f, lps(box(0, 0, 2, 2), box(2, 0, 4, 2), box(0, 2, 2, 4), box(2, 2, 4, 4)), pairsOf(0, 1, 0, 2, 1, 3, 2, 3)},
		{"the same wall, apart", lp(0, -4, 4, -4, 1, 8, 3, 8), o, f, lps(
			[]impl.V{o, at(2, 0), {X: q(2, 1), Y: q(15, 8)}, {X: q(0, 1), Y: q(49, 24)}},
			[]impl.V{at(2, 0), at(4, 0), {X: q(4, 1), Y: q(49, 24)}, {X: q(2, 1), Y: q(15, 8)}},
			[]impl.V{{X: q(0, 1), Y: q(49, 24)}, {X: q(2, 1), Y: q(15, 8)}, at(2, 4), at(0, 4)},
			[]impl.V{{X: q(2, 1), Y: q(15, 8)}, {X: q(4, 1), Y: q(49, 24)}, at(4, 4), at(2, 4)}), pairsOf(0, 1, 0, 2, 1, 3, 2, 3)},
		{"fractions", []impl.V{{X: q(1, 2), Y: q(1, 2)}, {X: q(1, 3), Y: q(2, 3)}}, o, at(1, 1),
			lps([]impl.V{o, at(1, 0), at(1, 1), {X: q(5, 6), Y: q(1, 1)}, {X: q(0, 1), Y: q(1, 6)}},
				[]impl.V{{X: q(0, 1), Y: q(1, 6)}, {X: q(5, 6), Y: q(1, 1)}, at(0, 1)}), pairsOf(0, 1)},
		{"great", lp(-top, -top, top, top), at(-top, -top), at(top, top), lps(lp(-top, -top, top, -top, -top, top), lp(-top, top, top, -top, top, top)), pairsOf(0, 1)},
		{"great, four", lp(-top, -top, top, -top, -top, top, top, top), at(-top, -top), at(top, top),
			lps(box(-top, -top, 0, 0), box(0, -top, top, 0), box(-top, 0, 0, top), box(0, 0, top, top)), pairsOf(0, 1, 0, 2, 1, 3, 2, 3)},
		{"great, next to one another", lp(top-2, top, top, top), at(-top, -top), at(top, top), lps(box(-top, -top, top-1, top), box(top-1, -top, top, top)), pairsOf(0, 1)},
		{"the least box", lp(0, 0, 1, 1), o, impl.V{X: q(1, top), Y: q(1, top)}, lps([]impl.V{o, {X: q(1, top), Y: q(0, 1)}, {X: q(1, top), Y: q(1, top)}, {X: q(0, 1), Y: q(1, top)}}, nil), nil},
	}
}

func TestCellsByHand(t *testing.T) {
	for _, c := range cellCases() {
		told := checkCells(t, c.list, c.lo, c.hi)
		if told.refused > 0 || !sameLoops(told.loops, c.loops) || !slices.Equal(told.pairs, c.pairs) {
			t.Error(c.name, told)
		}
	}
}

// wantNearest puts the positions in order by distance, and then by themselves.
func wantNearest(list []impl.V, v impl.V) int64 {
	var positions []int64
	for i := range list {
		positions = append(positions, int64(i))
	}
	far := func(i int64) *big.Rat { return square(pointOf(list[i]), pointOf(v)) }
	slices.SortFunc(positions, func(i, j int64) int {
		if c := far(i).Cmp(far(j)); c != 0 {
			return c
		}
		return int(i - j)
	})
	return positions[0]
}

// boxAround tells the least and the greatest corner of a box.
func (s *spots) boxAround() (impl.V, impl.V) {
	for {
		lo, hi := s.place(), s.place()
		if impl.QCmp(lo.X, hi.X) > 0 {
			lo.X, hi.X = hi.X, lo.X
		}
		if impl.QCmp(lo.Y, hi.Y) > 0 {
			lo.Y, hi.Y = hi.Y, lo.Y
		}
		if lo.X != hi.X && lo.Y != hi.Y {
			return lo, hi
		}
	}
}

func TestCellsMany(t *testing.T) {
	t.Parallel()
	fine, refused, noArea, bare := 0, 0, 0, 0
	for kind := range spotKinds {
		s := &spots{dice(800 + kind), kind}
		for range []int{90, 60, 40, 30, 12}[kind] {
			list := s.unlike(int(1 + s.next()%uint64([]int{11, 7, 5, 4, 4}[kind])))
			lo, hi := s.boxAround()
			told := checkCells(t, list, lo, hi)
			switch {
			case told.refused > 0:
				refused++
			case told.noArea > 0:
				noArea++
			default:
				fine++
			}
			if slices.ContainsFunc(told.loops, func(loop []impl.V) bool { return len(loop) == 0 }) {
				bare++
			}
			checkPlacesOfBox(t, list, lo, hi, s.place())
			checkPlacesOfBox(t, list, lo, hi, lo)
			for _, loop := range told.loops {
				if len(loop) > 0 && kind < 2 {
					checkPlacesOfBox(t, list, lo, hi, loop[s.next()%uint64(len(loop))])
				}
			}
		}
	}
	if fine < 60 || refused < 10 || noArea < 10 || bare < 30 {
		t.Error("too few of a kind", fine, refused, noArea, bare)
	}
}

func TestCellsOfGrids(t *testing.T) {
	t.Parallel()
	most := grid(6, 5)
	told := checkCells(t, most, at(-1, -1), at(6, 5))
	if len(most) != impl.MaxSites || told.refused != 0 || len(told.pairs) != 5*5+6*4 {
		t.Error("a grid of as many places as there may be", told)
	}
	d := dice(81)
	// Walls through one place, and cells that go there but not on.
	for _, list := range [][]impl.V{grid(3, 3), round(), append(round(), at(0, 0)), lp(0, 0, 1, 0, 0, 1, -1, 0, 0, -1, 2, 2, -2, 2, -2, -2, 2, -2)} {
		list = d.mixed(list)
		for _, b := range [][2]impl.V{{at(-9, -9), at(9, 9)}, {at(0, 0), at(9, 9)}, {at(-1, 0), at(1, 2)}, {at(1, 1), at(2, 2)}} {
			if told := checkCells(t, list, b[0], b[1]); told.refused+told.noArea > 0 {
				t.Error(list, "in", b, told)
			}
		}
	}
	if told := checkCells(t, round(), at(-6, -6), at(6, 6)); len(told.pairs) != 12 {
		t.Error("twelve that have a place in common touch along walls alone", told.pairs)
	}
}

// nearUpright are two places, and one that cuts a corner of their cells away: the wall between the first two goes through
// X = 1 + 10^-18 at Y = 0, X = 1 at Y = 10^-9, and 1 - 10^-18 at twice that, of which the first is no Q.
func nearUpright() ([]impl.V, impl.V) {
	const fine = 1000000000
	return []impl.V{at(0, 0), {X: q(2, 1), Y: q(1, fine/2)}}, at(2, 0)
}

func TestCellCornerThatIsNoPlace(t *testing.T) {
	two, third := nearUpright()
	low, high := q(1, 1000000000), q(1, 500000000)
	lo := at(0, 0)
	for _, y := range []impl.Q{low, high} {
		hi := impl.V{X: q(2, 1), Y: y}
		if told := checkCells(t, two, lo, hi); told.refused != 2 {
			t.Error("a corner that is no V", told)
		}
		// Others far away have no part of it, and their cells are none that are refused.
		if told := checkCells(t, append(two, at(50, 0), at(0, 50)), lo, hi); told.refused != 2 || len(told.loops[2])+len(told.loops[3]) > 0 {
			t.Error("a corner that is no V, of two of four", told)
		}
		if told := checkCells(t, append(two, third), lo, hi); told.refused != 0 {
			t.Error("a corner that is no V, but cut away", told)
		}
		if told := checkCells(t, swappedAll(two), lo, swapped(hi)); told.refused != 2 {
			t.Error("a corner of which Y is no Q", told)
		}
		if told := checkCells(t, swappedAll(append(two, third)), lo, swapped(hi)); told.refused != 0 {
			t.Error("a corner of which Y is no Q, but cut away", told)
		}
	}
	// The box begins where X is 1: nothing is told of what is outside of it.
	if told := checkCells(t, two, impl.V{X: q(0, 1), Y: low}, impl.V{X: q(2, 1), Y: high}); told.refused != 0 || len(told.pairs) != 1 {
		t.Error("a corner that is no V, outside of the box", told)
	}
	// The last two have the lower edge alone, which has no area: where it is cut, theirs are no corners, but those of the others.
	const fine = 1000000000
	pairs := []impl.V{at(0, 1), {X: q(2, 1), Y: q(fine/2+1, fine/2)}, at(0, -1), {X: q(2, 1), Y: q(-fine/2-1, fine/2)}}
	if told := checkCells(t, pairs, lo, impl.V{X: q(2, 1), Y: q(fine+1, fine)}); told.refused != 2 {
		t.Error("edges without area that end where X is no Q", told)
	}
}

func swappedAll(list []impl.V) []impl.V {
	var out []impl.V
	for _, v := range list {
		out = append(out, swapped(v))
	}
	return out
}

func TestAreasThatAreNone(t *testing.T) {
	const wide = 1000000000
	// Twice the area is just MaxNum, and two more.
	if told := checkCells(t, lp(0, 0), at(0, 0), at(wide/2, wide)); told.noArea != 0 {
		t.Error("an area that is MaxNum", told)
	}
	if told := checkCells(t, lp(0, 0), at(0, 0), at(top/2+1, 1)); told.noArea != 1 {
		t.Error("an area that is above MaxNum", told)
	}
	// One of three, whichever it is.
	list := lp(-1, 0, 1, 0, 9, 0)
	for _, o := range orders(3) {
		if told := checkCells(t, pick(list, o), at(-top, 0), at(100, 1)); told.refused != 0 || told.noArea != 1 || len(told.pairs) != 2 {
			t.Error("areas of three cells", told)
		}
	}
	// A denominator that is no Q's.
	if told := checkCells(t, lp(0, 0), at(0, 0), impl.V{X: q(1, wide), Y: q(1, 2*wide)}); told.noArea != 0 {
		t.Error("a denominator that is MaxNum", told)
	}
	if told := checkCells(t, lp(0, 0), at(0, 0), impl.V{X: q(1, wide+1), Y: q(1, wide+3)}); told.noArea != 1 {
		t.Error("a denominator above MaxNum", told)
	}
	// The area of the whole is no Q, but those of the cells are.
	if told := checkCells(t, lp(-1, 0, 1, 0), at(-wide/2, 0), at(wide/2, wide)); told.noArea != 0 {
		t.Error("areas that together are above MaxNum", told)
	}
}

func checkNoCell(t *testing.T, name any, list []impl.V, i int64, lo, hi impl.V) {
	t.Helper()
	if r, ok := impl.Cell(list, i, lo, hi); ok || len(r.Loops) != 0 {
		t.Error(name, "has a cell:", r, ok)
	}
}

// checkNoCells is for what is wrong for all positions.
func checkNoCells(t *testing.T, name any, list []impl.V, lo, hi impl.V) {
	t.Helper()
	for i := range int64(len(list)) {
		checkNoCell(t, name, list, i, lo, hi)
	}
	if areas, ok := impl.CellAreas(list, lo, hi); ok || len(areas) != 0 {
		t.Error(name, "has areas:", areas, ok)
	}
	if pairs, ok := impl.Touching(list, lo, hi); ok || len(pairs) != 0 {
		t.Error(name, "has pairs:", pairs, ok)
	}
}

func TestCellsRefused(t *testing.T) {
	list, lo, hi := lp(1, 1, 3, 1, 2, 3), at(0, 0), at(4, 4)
	for _, i := range []int64{-1, 3, 4, 29, 30, 1 << 62, -1 << 63, 1<<63 - 1, 1 << 32, -1 << 32} {
		checkNoCell(t, i, list, i, lo, hi)
		checkNoCell(t, i, nil, i, lo, hi)
	}
	checkNoCell(t, "the first of none", nil, 0, lo, hi)
	most := grid(6, 5)
	checkNoCells(t, "one place too many", append(most, at(9, 9)), lo, hi)
	for i := range most {
		again := slices.Clone(most)
		again[i] = again[(i+11)%30]
		checkNoCells(t, "two the same", again, lo, hi)
	}
	checkNoCells(t, "the same twice", lp(1, 1, 1, 1), lo, hi)
	for _, b := range [][2]impl.V{
		{at(0, 0), at(0, 4)}, {at(0, 0), at(4, 0)}, {at(0, 0), at(0, 0)}, {at(4, 4), at(0, 0)}, {at(4, 0), at(0, 4)}, {at(0, 4), at(4, 0)},
		{at(0, 4), at(0, 0)}, {at(4, 0), at(0, 0)}, {{X: q(1, top-1), Y: q(0, 1)}, {X: q(1, top), Y: q(1, 1)}}, {{X: q(0, 1), Y: q(1, 2)}, {X: q(1, 1), Y: q(1, 2)}},
	} {
		checkNoCells(t, b, list, b[0], b[1])
		checkNoCells(t, b, nil, b[0], b[1])
		checkNoCell(t, b, lp(1, 1), 0, b[0], b[1])
	}
	for _, v := range brokenPlaces() {
		checkNoCells(t, v, list, v, hi)
		checkNoCells(t, v, list, lo, v)
		checkNoCells(t, v, nil, v, hi)
		checkNoCells(t, v, nil, lo, v)
		for i := range list {
			broken := slices.Clone(list)
			broken[i] = v
			checkNoCells(t, v, broken, lo, hi)
		}
		checkNoCells(t, v, []impl.V{v}, lo, hi)
	}
}

func TestNearestByHand(t *testing.T) {
	fine := impl.V{X: q(1, top), Y: q(0, 1)}
	for _, c := range []struct {
		name string
		list []impl.V
		v    impl.V
		want int64
	}{
		{"one", lp(7, 7), at(0, 0), 0},
		{"itself", lp(7, 7, 0, 0, 1, 0), at(0, 0), 1},
		{"the last", lp(7, 7, 3, 0, 1, 0), at(0, 0), 2},
		{"two as near", lp(7, 7, 0, 5, 3, 4), at(0, 0), 1},
		{"all as near", round(), at(0, 0), 0},
		{"places alike", lp(9, 9, 1, 2, 1, 2, 1, 2), at(1, 3), 1},
		{"all alike", lp(1, 2, 1, 2, 1, 2), at(1, 2), 0},
		{"alike, and as near", lp(9, 9, 3, 4, 5, 0, 3, 4), at(0, 0), 1},
		{"far away", lp(-top, -top, top, top), at(1, 0), 1},
		{"far away, as near", lp(-top, -top, top, top), at(1, -1), 0},
		{"squares that are no Q", lp(-top, 1, top, 0), at(0, 0), 1},
		{"hardly nearer", []impl.V{fine, at(0, 0)}, impl.V{X: q(1, top-1), Y: q(1, top)}, 0},
		{"hardly nearer, the other way", []impl.V{{X: q(1, top-1), Y: q(0, 1)}, at(0, 0)}, impl.V{X: q(1, top), Y: q(1, top)}, 0},
	} {
		if got := impl.Nearest(c.list, c.v); got != c.want || wantNearest(c.list, c.v) != got {
			t.Error(c.name, got, "not", c.want, wantNearest(c.list, c.v))
		}
	}
	// In every order, of as near ones the one that is first.
	list := lp(3, 4, 0, 5, -3, 4, 6, 0, -5, 0)
	for _, o := range orders(5) {
		want := int64(0)
		if o[0] == 3 {
			want = 1
		}
		if got := impl.Nearest(pick(list, o), at(0, 0)); got != want {
			t.Error("of those in the order", o, got)
		}
	}
}

func TestNearestMany(t *testing.T) {
	for kind := range spotKinds {
		s := &spots{dice(860 + kind), kind}
		for range 300 {
			var list []impl.V
			for range 1 + s.next()%12 {
				list = append(list, s.place())
			}
			v := s.place()
			if got := impl.Nearest(list, v); got != wantNearest(list, v) {
				t.Fatal("nearest to", v, "of", list, got, "not", wantNearest(list, v))
			}
		}
	}
}

func TestNearestLimits(t *testing.T) {
	most := grid(6, 5)
	for i, v := range most {
		if got := impl.Nearest(most, v); got != int64(i) {
			t.Error("nearest to", v, "of as many as there may be", got)
		}
	}
	if got := impl.Nearest(append(most, at(0, 0)), at(0, 0)); got != -1 {
		t.Error("one place too many", got)
	}
	if impl.Nearest(nil, at(0, 0)) != -1 || impl.Nearest([]impl.V{}, at(0, 0)) != -1 {
		t.Error("nearest of none")
	}
	for _, v := range brokenPlaces() {
		if impl.Nearest(most, v) != -1 || impl.Nearest(nil, v) != -1 {
			t.Error("nearest to", v)
		}
		for i := range 3 {
			broken := lp(0, 0, 5, 5, 2, 9)
			broken[i] = v
			if got := impl.Nearest(broken, at(5, 5)); got != -1 {
				t.Error(v, "is taken for a place:", got)
			}
		}
	}
}
