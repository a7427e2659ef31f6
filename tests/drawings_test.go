package tests

import (
	"math/big"
	"slices"
	"testing"

	"loop.example/g00022/impl"
)

// Promise 21: what is hidden, strokes and shadows, held against tetrahedra.

func onPaper(p point3) point { return point{p[0], p[1]} }

// uprightIn tells from where to where the upright line at a place of the paper is in a tetrahedron; false when nowhere.
func uprightIn(t [4]point3, at point) (low, high *big.Rat, ok bool) {
	for out := range 4 {
		a, b, c := t[(out+1)%4], t[(out+2)%4], t[(out+3)%4]
		up := normalAt(a, b, c)
		if up.dot(t[out].minus(a)).Sign() < 0 {
			up = up.times(big.NewRat(-1, 1))
		}
		// On the line, z has to be such that up[2] z is not below rest.
		rest := minusRat(up.dot(a), plusRat(timesRat(up[0], at.x), timesRat(up[1], at.y)))
		switch up[2].Sign() {
		case 0:
			if rest.Sign() > 0 {
				return nil, nil, false
			}
		case 1:
			if z := new(big.Rat).Quo(rest, up[2]); low == nil || z.Cmp(low) > 0 {
				low = z
			}
		case -1:
			if z := new(big.Rat).Quo(rest, up[2]); high == nil || z.Cmp(high) < 0 {
				high = z
			}
		}
	}
	return low, high, low.Cmp(high) <= 0
}

// wantHidden looks half way between all heights at which the line above a place comes into a tetrahedron or leaves one.
func (c tetras) wantHidden() func(point3) bool {
	where := c.wheres()
	return func(p point3) bool {
		stops := []*big.Rat{p[2]}
		for k := range c.list {
			if low, high, ok := uprightIn(c.corners(k), onPaper(p)); ok {
				stops = append(stops, low, high)
			}
		}
		stops = slices.DeleteFunc(stops, func(z *big.Rat) bool { return z.Cmp(p[2]) < 0 })
		slices.SortFunc(stops, (*big.Rat).Cmp)
		for i := range stops[1:] {
			middle := timesRat(plusRat(stops[i], stops[i+1]), big.NewRat(1, 2))
			if stops[i].Cmp(stops[i+1]) < 0 && where(point3{p[0], p[1], middle}) == impl.WhereIn {
				return true
			}
		}
		return false
	}
}

// heightOn tells how high an edge is over a place of the paper that it is drawn over.
func heightOn(e [2]point3, at point) *big.Rat {
	way := e[1].minus(e[0])
	share := new(big.Rat)
	if way[0].Sign() != 0 {
		share.Quo(minusRat(at.x, e[0][0]), way[0])
	} else {
		share.Quo(minusRat(at.y, e[0][1]), way[1])
	}
	return e[0].plus(way.times(share))[2]
}

// drawnEdges are those that are not upright, and how they are drawn.
func drawnEdges(s impl.Solid) (edges [][2]point3, lines []pointEdge) {
	list, _ := wantEdges(s)
	for _, e := range list {
		a, b := point3Of(e.A), point3Of(e.B)
		if line := (pointEdge{onPaper(a), onPaper(b)}); line.a.cmp(line.b) != 0 {
			edges, lines = append(edges, [2]point3{a, b}), append(lines, line)
		}
	}
	return edges, lines
}

func wantStrokes(s impl.Solid, isHidden func(point3) bool) ([]impl.Stroke, bool) {
	edges, lines := drawnEdges(s)
	var strokes []impl.Stroke
	for _, p := range smallPieces(lines) {
		a, ok1 := p.a.place()
		b, ok2 := p.b.place()
		if !ok1 || !ok2 {
			return nil, false
		}
		middle, hidden := between(p.a, p.b, big.NewRat(1, 2)), true
		for i, line := range lines {
			if hidden && isOn(middle, line.a, line.b) {
				hidden = isHidden(point3{middle.x, middle.y, heightOn(edges[i], middle)})
			}
		}
		strokes = append(strokes, impl.Stroke{A: a, B: b, Hidden: hidden})
	}
	return strokes, true
}

// covers tells whether some tetrahedron has inside over, or under, a place of the paper; the place is on no drawn edge.
func (c tetras) covers(p point) bool {
	for k := range c.list {
		t := c.corners(k)
		for out := range 4 {
			a, b, d := onPaper(t[(out+1)%4]), onPaper(t[(out+2)%4]), onPaper(t[(out+3)%4])
			turn := side(a, b, d)
			if turn != 0 && side(a, b, p)*turn >= 0 && side(b, d, p)*turn >= 0 && side(d, a, p)*turn >= 0 {
				return true
			}
		}
	}
	return false
}

func (c tetras) wantShadow(s impl.Solid) ([][]impl.V, bool) {
	_, lines := drawnEdges(s)
	return wantOutline(lines, c.covers)
}

// checkDrawing tells how many strokes are seen and how many are hidden.
func checkDrawing(t *testing.T, name any, c tetras) (seen, hidden int) {
	t.Helper()
	s, ok := c.skin()
	if !ok || !impl.SolidOk(s) {
		t.Log("no skin of", name)
		return 0, 0
	}
	want, fine := wantStrokes(s, c.wantHidden())
	got, ok := impl.Strokes(s)
	if ok != fine || !slices.Equal(got, want) {
		t.Fatal(name, "is drawn", got, ok, "not", want, fine)
	}
	loops, fine := c.wantShadow(s)
	shadow, isTold := impl.Shadow(s)
	if isTold != fine || !sameLoops(shadow.Loops, loops) {
		t.Fatal(name, "has the shadow", shadow, isTold, "not", loops, fine)
	}
	if ok && isTold {
		checkShadowDrawn(t, name, shadow, got)
	}
	for _, k := range got {
		if k.Hidden {
			hidden++
		} else {
			seen++
		}
	}
	return seen, hidden
}

// checkShadowDrawn asks that no stroke leaves the shadow, and that strokes that are seen cover the shadow's edge.
func checkShadowDrawn(t *testing.T, name any, shadow impl.Region, strokes []impl.Stroke) {
	t.Helper()
	if !impl.RegionOk(shadow) {
		t.Fatal(name, "has a shadow that is no region:", shadow)
	}
	for _, k := range strokes {
		whole := impl.Seg{A: k.A, B: k.B}
		if list, ok := impl.ClipSeg(shadow, whole); !ok || !slices.Equal(list, []impl.Seg{whole}) {
			t.Fatal(name, k, "leaves the shadow:", list, ok)
		}
	}
	for _, loop := range shadow.Loops {
		for i, from := range loop {
			to := loop[(i+1)%len(loop)]
			if impl.CmpV(from, to) > 0 {
				from, to = to, from
			}
			for _, k := range strokes {
				// They are in order, and so each goes on where the one ahead of it has ended.
				if k.A == from && impl.OnSeg(k.B, impl.Seg{A: from, B: to}) && !k.Hidden {
					from = k.B
				}
				if from == to {
					break
				}
			}
			if from != to {
				t.Fatal(name, "has an edge of its shadow that is not seen, from", from, "to", to)
			}
		}
	}
}

func TestDrawingsOfSolids(t *testing.T) {
	t.Parallel()
	seen, hidden := 0, 0
	for _, c := range solidCases() {
		for i, o := range []tetras{c.of, c.of.moved(aslant), c.of.moved(func(p point3) point3 { return point3{p[2], p[0], p[1]} })} {
			if i > 0 && len(o.list) > 156 {
				continue
			}
			one, other := checkDrawing(t, c.name, o)
			seen, hidden = seen+one, hidden+other
		}
	}
	if seen < 500 || hidden < 300 {
		t.Error("only", seen, "strokes are seen, and", hidden, "are hidden")
	}
}

// stack are tetrahedra in any place, one above the other.
func (d *dice) stack(count, size int64) tetras {
	var all tetras
	for i := range count {
		c := d.anyTetra(size)
		if isFlat(c) {
			continue
		}
		all = all.with(c.moved(func(p point3) point3 { return p.plus(whole3(0, 0, 3*size*i)) }))
	}
	return all
}

func TestDrawingsMany(t *testing.T) {
	t.Parallel()
	d := dice(210)
	seen, hidden := 0, 0
	for n := range int64(36) {
		c := d.stack(1+n%6, []int64{2, 3, 9, 100, 300000}[n%5])
		if n%6 == 5 {
			c = cubes(block(2, 2, 2)...).some(func(int) bool { return d.next()%2 == 0 })
		}
		if n%6 == 4 {
			c = d.jolted(cubes(block(2, 2, 1)...)).some(func(int) bool { return d.next()%3 > 0 })
		}
		one, other := checkDrawing(t, n, c)
		seen, hidden = seen+one, hidden+other
	}
	if seen < 500 || hidden < 300 {
		t.Error("only", seen, "strokes are seen, and", hidden, "are hidden")
	}
}

func TestHiddenMany(t *testing.T) {
	t.Parallel()
	d := dice(211)
	var count [2]int
	check := func(name any, c tetras) {
		s, ok := c.skin()
		if !ok {
			return
		}
		isHidden := c.wantHidden()
		for _, p := range d.samples(c, 10) {
			v, ok := p.place()
			if !ok {
				continue
			}
			want := int64(0)
			if isHidden(p) {
				want = 1
			}
			count[want]++
			if got := impl.Hidden(s, v); got != want {
				t.Fatal(name, v, "is hidden:", got, "not", want)
			}
		}
	}
	for _, c := range solidCases() {
		check(c.name, c.of)
		check(c.name+" aslant", c.of.moved(aslant))
	}
	for n := range int64(30) {
		check(n, d.stack(1+n%6, 3))
		check(n, cubes(block(2, 2, 2)...).some(func(int) bool { return d.next()%2 == 0 }))
	}
	if count[0] < 500 || count[1] < 500 {
		t.Error("too few of a kind:", count)
	}
}
