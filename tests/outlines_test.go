package tests

import (
	"math/big"
	"slices"

	"loop.example/g00022/impl"
)

// Here outlines are made by the document's words for them, in big numbers and by trying: cut at every place, look on both sides
// of each piece, and turn. The program's own way is another one.

type pointEdge struct{ a, b point }

func pointsOf(loop []impl.V) []point {
	var list []point
	for _, v := range loop {
		list = append(list, pointOf(v))
	}
	return list
}

func pointLoops(loops [][]impl.V) [][]point {
	var list [][]point
	for _, loop := range loops {
		list = append(list, pointsOf(loop))
	}
	return list
}

func edgesOf(loops [][]point) []pointEdge {
	var list []pointEdge
	for _, loop := range loops {
		for i := range loop {
			if to := loop[(i+1)%len(loop)]; loop[i].cmp(to) != 0 {
				list = append(list, pointEdge{loop[i], to})
			}
		}
	}
	return list
}

func between(a, b point, share *big.Rat) point {
	return point{plusRat(a.x, timesRat(share, minusRat(b.x, a.x))), plusRat(a.y, timesRat(share, minusRat(b.y, a.y)))}
}

func crossEachOther(e, f pointEdge) bool {
	return side(e.a, e.b, f.a)*side(e.a, e.b, f.b) < 0 && side(f.a, f.b, e.a)*side(f.a, f.b, e.b) < 0
}

// isOddly counts the edges along a way from p to far away that meets no end of an edge; p is on no edge.
func isOddly(p point, edges []pointEdge) bool {
	far := big.NewRat(1, 1)
	for _, e := range edges {
		for _, o := range []point{e.a, e.b} {
			for _, r := range []*big.Rat{minusRat(o.x, p.x), minusRat(o.y, p.y)} {
				far = plusRat(far, r.Abs(r))
			}
		}
	}
	for k := int64(1); ; k++ {
		end := point{plusRat(p.x, far), plusRat(p.y, timesRat(far, big.NewRat(k, 101)))}
		if odd, clear := crossedOddly(p, end, edges); clear {
			return odd
		}
	}
}

// crossedOddly is not clear where the way meets an end of an edge.
func crossedOddly(p, end point, edges []pointEdge) (odd bool, clear bool) {
	for _, e := range edges {
		one, two := side(p, end, e.a), side(p, end, e.b)
		if one == 0 || two == 0 {
			return false, false
		}
		if one != two && side(e.a, e.b, p)*side(e.a, e.b, end) < 0 {
			odd = !odd
		}
	}
	return odd, true
}

// cutsOf tells all places where two edges meet or one ends.
func cutsOf(edges []pointEdge) []point {
	var list []point
	for i, e := range edges {
		list = append(list, e.a, e.b)
		for _, f := range edges[:i] {
			if crossEachOther(e, f) {
				list = append(list, crossing(e.a, e.b, f.a, f.b))
			}
		}
	}
	return sortedPoints(list)
}

func sortedPoints(list []point) []point {
	slices.SortFunc(list, point.cmp)
	return slices.CompactFunc(list, func(a, b point) bool { return a.cmp(b) == 0 })
}

// smallPieces tells the pieces into which all edges are cut at all cuts, each once.
func smallPieces(edges []pointEdge) []pointEdge {
	cuts := cutsOf(edges)
	var list []pointEdge
	for _, e := range edges {
		var on []point
		for _, p := range cuts {
			if isOn(p, e.a, e.b) {
				on = append(on, p)
			}
		}
		for i := range on[1:] {
			list = append(list, pointEdge{on[i], on[i+1]})
		}
	}
	slices.SortFunc(list, func(e, f pointEdge) int {
		if c := e.a.cmp(f.a); c != 0 {
			return c
		}
		return e.b.cmp(f.b)
	})
	return slices.CompactFunc(list, func(e, f pointEdge) bool { return e.a.cmp(f.a) == 0 && e.b.cmp(f.b) == 0 })
}

// leftOf is a place beside the middle of the piece so near to it that no edge is between: half the way to the first one.
func leftOf(piece pointEdge, edges []pointEdge) point {
	middle := between(piece.a, piece.b, big.NewRat(1, 2))
	to := point{minusRat(middle.x, minusRat(piece.b.y, piece.a.y)), plusRat(middle.y, minusRat(piece.b.x, piece.a.x))}
	whole := square(middle, to)
	first := big.NewRat(1, 1)
	for _, e := range edges {
		for _, p := range metAlong(middle, to, e) {
			if share := new(big.Rat).Quo(slant(middle, to, middle, p), whole); share.Sign() > 0 && share.Cmp(first) < 0 {
				first = share
			}
		}
	}
	return between(middle, to, timesRat(first, big.NewRat(1, 2)))
}

// metAlong tells where the line from a to b meets e; if all along, its ends.
func metAlong(a, b point, e pointEdge) []point {
	switch one, two := side(a, b, e.a), side(a, b, e.b); {
	case one == 0 && two == 0:
		return []point{e.a, e.b}
	case one*two <= 0:
		return []point{crossing(a, b, e.a, e.b)}
	}
	return nil
}

// angle grows from 0 to 4 along the round, to the left.
func angle(x, y *big.Rat) *big.Rat {
	size := plusRat(new(big.Rat).Abs(x), new(big.Rat).Abs(y))
	share := new(big.Rat).Quo(y, size)
	switch {
	case x.Sign() < 0:
		return minusRat(big.NewRat(2, 1), share)
	case y.Sign() < 0:
		return plusRat(big.NewRat(4, 1), share)
	}
	return share
}

func angleFrom(a, b point) *big.Rat { return angle(minusRat(b.x, a.x), minusRat(b.y, a.y)) }

// clockwiseTo is how far one turns at p.b from the way back to the piece that goes out; above 0.
func clockwiseTo(p, out pointEdge) *big.Rat {
	turn := minusRat(angleFrom(p.b, p.a), angleFrom(out.a, out.b))
	if turn.Sign() <= 0 {
		turn = plusRat(turn, big.NewRat(4, 1))
	}
	return turn
}

// borderOf tells the pieces with the inside on the left and the outside on the right.
func borderOf(edges []pointEdge, inside func(point) bool) []pointEdge {
	var list []pointEdge
	for _, p := range smallPieces(edges) {
		back := pointEdge{p.b, p.a}
		left, right := inside(leftOf(p, edges)), inside(leftOf(back, edges))
		if left && !right {
			list = append(list, p)
		} else if right && !left {
			list = append(list, back)
		}
	}
	return list
}

// nextOf tells which piece goes behind each one.
func nextOf(pieces []pointEdge) []int {
	next := make([]int, len(pieces))
	for i, p := range pieces {
		next[i] = -1
		for j, o := range pieces {
			if o.a.cmp(p.b) == 0 && (next[i] < 0 || clockwiseTo(p, o).Cmp(clockwiseTo(p, pieces[next[i]])) < 0) {
				next[i] = j
			}
		}
	}
	return next
}

func walkBorder(border []pointEdge) [][]point {
	next := nextOf(border)
	var loops [][]point
	gone := make([]bool, len(border))
	for i := range border {
		var loop []point
		for at := i; !gone[at]; at = next[at] {
			gone[at] = true
			if side(border[at].a, border[at].b, border[next[at]].b) != 0 {
				loop = append(loop, border[at].b)
			}
		}
		if len(loop) > 0 {
			loops = append(loops, loop)
		}
	}
	return loops
}

func comparePoints(a, b []point) int { return slices.CompareFunc(a, b, point.cmp) }

func wantOutline(edges []pointEdge, inside func(point) bool) ([][]impl.V, bool) {
	return toldOutline(borderOf(edges, inside))
}

// toldOutline is false where a place is no V, or there are too many.
func toldOutline(border []pointEdge) ([][]impl.V, bool) {
	loops := walkBorder(border)
	for i, loop := range loops {
		var turns [][]point
		for k := range loop {
			turns = append(turns, slices.Concat(loop[k:], loop[:k]))
		}
		loops[i] = slices.MinFunc(turns, comparePoints)
	}
	slices.SortFunc(loops, comparePoints)
	list, count := make([][]impl.V, len(loops)), 0
	for i, loop := range loops {
		for _, p := range loop {
			v, ok := p.place()
			if !ok {
				return nil, false
			}
			list[i] = append(list[i], v)
			count++
		}
	}
	if count > 100 {
		return nil, false
	}
	return list, true
}

// wantRegion is what MakeRegion should tell of places that are ok.
func wantRegion(loops [][]point) ([][]impl.V, bool) {
	edges := edgesOf(loops)
	return wantOutline(edges, func(p point) bool { return isOddly(p, edges) })
}

// A strip is a part of a region between two upright lines, with the positions of the loops that are below and above it.
type strip struct {
	leftLow, leftHigh, rightLow, rightHigh point
	below, above                           int
}

func heightAt(x *big.Rat, e pointEdge) point {
	return between(e.a, e.b, new(big.Rat).Quo(minusRat(x, e.a.x), minusRat(e.b.x, e.a.x)))
}

// stripsOf cuts an outline up by upright lines through all its places; for each pair of lines one list, from below.
func stripsOf(loops [][]point) [][]strip {
	var all []point
	for _, loop := range loops {
		all = append(all, loop...)
	}
	all = sortedPoints(slices.Clone(all))
	var list [][]strip
	for i := range all {
		if i > 0 && all[i-1].x.Cmp(all[i].x) != 0 {
			list = append(list, stripsBetween(loops, all[i-1].x, all[i].x))
		}
	}
	return list
}

func stripsBetween(loops [][]point, left, right *big.Rat) []strip {
	type crossed struct {
		low, high point
		loop      int
	}
	var across []crossed
	for k, loop := range loops {
		for _, e := range edgesOf([][]point{loop}) {
			if e.a.cmp(e.b) > 0 {
				e.a, e.b = e.b, e.a
			}
			if e.a.x.Cmp(left) <= 0 && e.b.x.Cmp(right) >= 0 {
				across = append(across, crossed{heightAt(left, e), heightAt(right, e), k})
			}
		}
	}
	slices.SortFunc(across, func(a, b crossed) int { return plusRat(a.low.y, a.high.y).Cmp(plusRat(b.low.y, b.high.y)) })
	var list []strip
	for i := 0; i+1 < len(across); i += 2 {
		a, b := across[i], across[i+1]
		list = append(list, strip{a.low, b.low, a.high, b.high, a.loop, b.loop})
	}
	return list
}

// triangleSums adds twice the area of the triangle, and three times that with its middle.
func triangleSums(sums [3]*big.Rat, a, b, c point) [3]*big.Rat {
	area := minusRat(timesRat(minusRat(b.x, a.x), minusRat(c.y, a.y)), timesRat(minusRat(b.y, a.y), minusRat(c.x, a.x)))
	x, y := plusRat(plusRat(a.x, b.x), c.x), plusRat(plusRat(a.y, b.y), c.y)
	return [3]*big.Rat{plusRat(sums[0], area), plusRat(sums[1], timesRat(area, x)), plusRat(sums[2], timesRat(area, y))}
}

// wantMass is twice the area, and the middle where there is one, from strips.
func wantMass(loops [][]point) (*big.Rat, point) {
	sums := [3]*big.Rat{new(big.Rat), new(big.Rat), new(big.Rat)}
	for _, s := range slices.Concat(stripsOf(loops)...) {
		sums = triangleSums(sums, s.leftLow, s.rightLow, s.rightHigh)
		sums = triangleSums(sums, s.leftLow, s.rightHigh, s.leftHigh)
	}
	if sums[0].Sign() == 0 {
		return sums[0], point{}
	}
	third := timesRat(sums[0], big.NewRat(3, 1))
	return sums[0], point{new(big.Rat).Quo(sums[1], third), new(big.Rat).Quo(sums[2], third)}
}

// haveLength tells whether two pieces of an upright line have more in common than a place.
func haveLength(low1, high1, low2, high2 point) bool {
	low := slices.MaxFunc([]point{low1, low2}, point.cmp)
	return low.cmp(high1) < 0 && low.cmp(high2) < 0
}

// wantPieces tells the loops that border on strips of which each hangs together with the next along an upright line.
func wantPieces(loops [][]impl.V) [][][]impl.V {
	strips := stripsOf(pointLoops(loops))
	part := make([]int, len(loops))
	for i := range part {
		part[i] = i
	}
	join := func(a, b int) {
		from, to := max(part[a], part[b]), min(part[a], part[b])
		for i := range part {
			if part[i] == from {
				part[i] = to
			}
		}
	}
	for i, list := range strips {
		for _, s := range list {
			join(s.below, s.above)
			for _, o := range strips[max(i-1, 0)] {
				if i > 0 && haveLength(o.rightLow, o.rightHigh, s.leftLow, s.leftHigh) {
					join(o.below, s.below)
				}
			}
		}
	}
	var pieces [][][]impl.V
	for k := range loops {
		var piece [][]impl.V
		for i, p := range part {
			if p == k {
				piece = append(piece, loops[i])
			}
		}
		if piece != nil {
			pieces = append(pieces, piece)
		}
	}
	return pieces
}
