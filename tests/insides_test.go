package tests

import (
	"math/big"
	"slices"
	"testing"

	"loop.example/g00022/impl"
)

// Promise 11: inside and outside, edges and corners.

// samples are corners of tetrahedra, and middles of two, three and four of them: on corners, edges and faces, in and beside
// them; and others straight above, straight below and to the sides of these.
func (d *dice) samples(c tetras, n int) []point3 {
	var list []point3
	for range n {
		if len(c.list) == 0 {
			break
		}
		t := c.corners(int(d.next() % uint64(len(c.list))))
		p := middleOf(t[:1+d.next()%4]...)
		if d.next()%3 == 0 {
			// Of any two, also of different parts.
			p = middleOf(p, c.places[d.next()%uint64(len(c.places))])
		}
		off := whole3(0, 0, 0)
		if k := d.next() % 5; k < 3 {
			off[k] = big.NewRat(d.upTo(12), 3)
		} else if k == 3 {
			off = fraction3(d.upTo(3), d.upTo(3), d.upTo(3), 100)
		}
		list = append(list, p.plus(off))
	}
	return append(list, whole3(0, 0, 0), whole3(500, 0, 0), whole3(0, -500, 0), whole3(0, 0, 500), whole3(0, 0, -500))
}

// checkInside tells how many places of each kind there were.
func checkInside(t *testing.T, name any, s impl.Solid, c tetras, list []point3) [3]int {
	t.Helper()
	var seen [3]int
	where := c.wheres()
	for _, p := range list {
		v, ok := p.place()
		if !ok {
			continue
		}
		want := where(p)
		seen[want]++
		if got := impl.Inside(s, v); got != want {
			t.Fatal(name, v, "is", got, "not", want)
		}
	}
	return seen
}

func TestInsideMany(t *testing.T) {
	t.Parallel()
	d := dice(17)
	var seen [3]int
	for _, c := range solidCases() {
		for _, o := range []tetras{c.of, c.of.moved(aslant)} {
			s, ok := o.skin()
			if !ok {
				t.Log("no skin of", c.name)
				continue
			}
			for i, n := range checkInside(t, c.name, s, o, d.samples(o, 40)) {
				seen[i] += n
			}
		}
	}
	for n := range 80 {
		c := cubes(block(2, 2, 2)...).some(func(int) bool { return d.next()%2 == 0 })
		if n%2 == 0 {
			c = d.jolted(cubes(block(2, 1, 1)...)).some(func(int) bool { return d.next()%2 == 0 })
		}
		if s, ok := c.skin(); ok {
			for i, n := range checkInside(t, c, s, c, d.samples(c, 30)) {
				seen[i] += n
			}
		}
	}
	if slices.Min(seen[:]) < 500 {
		t.Error("too few of a kind:", seen)
	}
}

func TestInsideByHand(t *testing.T) {
	half := func(x, y, z int64) impl.V3 {
		v, _ := fraction3(x, y, z, 2).place()
		return v
	}
	out, on, in := int64(impl.WhereOut), int64(impl.WhereOn), int64(impl.WhereIn)
	type asked struct {
		v    impl.V3
		want int64
	}
	for name, c := range map[string]struct {
		of   tetras
		list []asked
	}{
		"nothing": {tetras{}, []asked{{v3(0, 0, 0), out}, {v3(top, -top, top), out}}},
		"a box": {cubes(block(1, 2, 3)...), []asked{
			{half(1, 1, 1), in}, {half(1, 2, 5), in}, {v3(0, 0, 0), on}, {v3(1, 2, 3), on}, {half(1, 0, 0), on}, {half(2, 4, 1), on}, {half(1, 1, 0), on}, {half(1, 1, 6), on},
			{half(1, 1, 7), out}, {half(1, 1, -1), out}, {v3(0, 0, 4), out}, {v3(0, 0, -1), out}, {half(1, 0, 9), out}, {half(1, 0, -9), out}, {v3(1, 1, -5), out},
			{v3(2, 1, 1), out}, {v3(-1, 1, 1), out}, {half(1, 5, 1), out}, {half(1, -1, 1), out}, {v3(0, 3, 0), out}, {v3(0, 2, 4), out},
			{impl.V3{X: q(1, top), Y: q(1, top), Z: q(1, top)}, in}, {impl.V3{X: q(-1, top), Y: q(1, 1), Z: q(1, 1)}, out}, {impl.V3{X: q(top-1, top), Y: q(1, 1), Z: q(top-1, top)}, in},
		}},
		"a hollow": {cubes(less(block(3, 3, 3), [3]int64{1, 1, 1})...), []asked{
			{half(3, 3, 3), out}, {half(3, 3, 2), on}, {half(3, 3, 1), in}, {half(3, 3, 0), on}, {half(3, 3, -1), out}, {half(3, 3, 4), on}, {half(3, 3, 5), in}, {v3(1, 1, 1), on}, {v3(2, 2, 2), on},
			{half(2, 2, 3), on}, {half(2, 2, 1), in}, {half(1, 1, 1), in},
		}},
		"a way through": {cubes(less(block(3, 3, 1), [3]int64{1, 1, 0})...), []asked{
			{half(3, 3, 1), out}, {half(3, 3, 0), out}, {half(3, 3, 2), out}, {half(3, 3, 5), out}, {half(3, 3, -5), out}, {half(2, 3, 1), on}, {v3(1, 1, 0), on}, {v3(1, 1, -1), out}, {half(1, 3, 1), in}, {half(1, 3, 2), on},
		}},
		"parts that touch along an edge": {cubes([3]int64{}, [3]int64{1, 1, 0}), []asked{
			{half(2, 2, 1), on}, {v3(1, 1, 0), on}, {v3(1, 1, 1), on}, {v3(1, 1, 2), out}, {v3(1, 1, -2), out}, {half(3, 1, 1), out}, {half(1, 1, 1), in}, {half(3, 3, 1), in}, {half(2, 1, 1), on}, {half(1, 2, 1), on},
		}},
		"parts that touch at a place": {cubes([3]int64{}, [3]int64{1, 1, 1}), []asked{
			{v3(1, 1, 1), on}, {half(1, 1, 1), in}, {half(3, 3, 3), in}, {half(1, 1, 3), out}, {half(3, 3, 1), out}, {half(3, 1, 2), out}, {half(1, 1, 2), on}, {half(3, 3, 2), on},
		}},
		"parts one above the other": {cubes([3]int64{}, [3]int64{0, 0, 3}, [3]int64{0, 0, 6}), []asked{
			{half(1, 1, 1), in}, {half(1, 1, 3), out}, {half(1, 1, 7), in}, {half(1, 1, 10), out}, {half(1, 1, 13), in}, {half(1, 1, 15), out}, {half(1, 1, -1), out}, {v3(0, 0, 2), out}, {half(0, 1, 7), on}, {half(0, 1, 5), out},
		}},
		"a pyramid": {pyramid(whole3(1, 1, 2)), []asked{
			{v3(1, 1, 2), on}, {v3(1, 1, 3), out}, {v3(1, 1, 1), in}, {v3(1, 1, 0), on}, {v3(1, 1, -1), out}, {half(1, 1, 2), on}, {half(1, 1, 3), out}, {half(1, 1, 1), in}, {half(1, 2, 2), on}, {v3(0, 0, 0), on}, {v3(0, 0, 1), out},
			{v3(0, 0, 2), out}, {v3(0, 0, -2), out}, {half(4, 4, 1), out},
		}},
	} {
		s := checkSkin(t, name, c.of)
		for _, a := range c.list {
			if got := impl.Inside(s, a.v); got != a.want {
				t.Error(name, a.v, "is", got, "not", a.want)
			}
		}
		for _, v := range broken3() {
			if impl.Inside(s, v) != impl.WhereBad {
				t.Error(v, "is no place")
			}
		}
	}
}

// The two sides of each face: a place next to its middle is in behind it, and out ahead of it.
func TestSidesOfFaces(t *testing.T) {
	t.Parallel()
	d := dice(23)
	for _, c := range solidCases()[1:] {
		for _, o := range []tetras{c.of, c.of.moved(aslant)} {
			s, ok := o.skin()
			if !ok {
				continue
			}
			for range 12 {
				f := s.Faces[d.next()%uint64(len(s.Faces))]
				parts, _ := impl.Strips(f.Region)
				part := pointsOf(parts[d.next()%uint64(len(parts))])
				p := lifted(f.Plane, between(between(part[0], part[1], big.NewRat(1, 2)), part[2], big.NewRat(37, 101)))
				step := normalOf(f.Plane).times(big.NewRat(1, 10000))
				for _, a := range []struct {
					p    point3
					want int64
				}{{p, impl.WhereOn}, {p.minus(step), impl.WhereIn}, {p.plus(step), impl.WhereOut}} {
					if v, ok := a.p.place(); ok && impl.Inside(s, v) != a.want {
						t.Fatal(c.name, v, "beside", f.Plane, "is", impl.Inside(s, v), "not", a.want)
					}
				}
			}
		}
	}
}

func comparePoint3(a, b point3) int { return a.cmp(b) }

// isBetween tells whether p lies on the piece from a to b, by lengths of its way there: the parts have one direction.
func isBetween(p, a, b point3) bool {
	u, v := p.minus(a), b.minus(p)
	for i := range u {
		j := (i + 1) % 3
		if timesRat(u[i], v[j]).Cmp(timesRat(u[j], v[i])) != 0 {
			return false
		}
	}
	return u.dot(v).Sign() >= 0
}

// wantEdges cuts all edges of loops at all their ends.
func wantEdges(s impl.Solid) ([]impl.Edge3, []impl.V3) {
	whole := edges3(s)
	var ends []point3
	for _, e := range whole {
		ends = append(ends, e[0], e[1])
	}
	slices.SortFunc(ends, comparePoint3)
	ends = slices.CompactFunc(ends, func(a, b point3) bool { return a.cmp(b) == 0 })
	var pieces [][2]point3
	for _, e := range whole {
		var on []point3
		for _, p := range ends {
			if isBetween(p, e[0], e[1]) {
				on = append(on, p)
			}
		}
		for i := range on[1:] {
			pieces = append(pieces, [2]point3{on[i], on[i+1]})
		}
	}
	compare := func(e, f [2]point3) int { return slices.CompareFunc(e[:], f[:], comparePoint3) }
	slices.SortFunc(pieces, compare)
	var edges []impl.Edge3
	for i, e := range pieces {
		if i == 0 || compare(pieces[i-1], e) != 0 {
			a, _ := e[0].place()
			b, _ := e[1].place()
			edges = append(edges, impl.Edge3{A: a, B: b})
		}
	}
	var corners []impl.V3
	for _, p := range ends {
		v, _ := p.place()
		corners = append(corners, v)
	}
	return edges, corners
}

// checkEdges tells the edges, each of which has an even number of faces.
func checkEdges(t *testing.T, name any, s impl.Solid) []impl.Edge3 {
	t.Helper()
	edges, corners := wantEdges(s)
	if got, ok := impl.EdgesOf(s); !ok || !slices.Equal(got, edges) {
		t.Fatal("edges of", name, got, ok, "not", edges)
	}
	if got, ok := impl.Corners(s); !ok || !slices.Equal(got, corners) {
		t.Fatal("corners of", name, got, ok, "not", corners)
	}
	rims := edges3(s)
	for _, e := range edges {
		middle, count := middleOf(point3Of(e.A), point3Of(e.B)), 0
		for _, r := range rims {
			if isBetween(middle, r[0], r[1]) {
				count++
			}
		}
		if count == 0 || count%2 != 0 {
			t.Fatal(name, "has", count, "faces at", e)
		}
	}
	return edges
}

func TestEdgesOfManySolids(t *testing.T) {
	t.Parallel()
	d := dice(29)
	for _, c := range solidCases() {
		for _, o := range []tetras{c.of, c.of.moved(aslant)} {
			if s, ok := o.skin(); ok {
				checkEdges(t, c.name, s)
			}
		}
	}
	for n := range 60 {
		c := cubes(block(2, 2, 2)...).some(func(int) bool { return d.next()%2 == 0 })
		if n%2 == 0 {
			c = d.jolted(cubes(block(2, 1, 1)...)).some(func(int) bool { return d.next()%2 == 0 })
		}
		if s, ok := c.skin(); ok {
			checkEdges(t, n, s)
		}
	}
}

func TestEdgesByHand(t *testing.T) {
	for name, c := range map[string]struct {
		of             tetras
		edges, corners int
		has            []impl.Edge3
		hasNot         []impl.Edge3
	}{
		"nothing": {tetras{}, 0, 0, nil, nil},
		"a box":   {cubes(block(1, 2, 3)...), 12, 8, []impl.Edge3{{A: v3(0, 0, 0), B: v3(0, 0, 3)}, {A: v3(0, 2, 3), B: v3(1, 2, 3)}}, []impl.Edge3{{A: v3(0, 0, 3), B: v3(0, 0, 0)}}},
		"a small box on a great one": {cubes(append(block(3, 3, 1), [3]int64{1, 1, 1})...), 24, 16,
			[]impl.Edge3{{A: v3(1, 1, 1), B: v3(2, 1, 1)}, {A: v3(0, 0, 1), B: v3(3, 0, 1)}}, nil},
		"a small box at the rim of a great one": {cubes(append(block(3, 3, 1), [3]int64{1, 0, 1})...), 24, 16,
			[]impl.Edge3{{A: v3(0, 0, 1), B: v3(1, 0, 1)}, {A: v3(2, 0, 1), B: v3(3, 0, 1)}}, []impl.Edge3{{A: v3(1, 0, 1), B: v3(2, 0, 1)}, {A: v3(0, 0, 1), B: v3(3, 0, 1)}}},
		"parts that touch along an edge": {cubes([3]int64{}, [3]int64{1, 1, 0}), 23, 14,
			[]impl.Edge3{{A: v3(1, 1, 0), B: v3(1, 1, 1)}}, nil},
		"parts that touch along a part of an edge": {cubes([3]int64{}, [3]int64{1, 0, 0}, [3]int64{1, 1, 1}), 24, 15,
			[]impl.Edge3{{A: v3(0, 1, 1), B: v3(1, 1, 1)}, {A: v3(1, 1, 1), B: v3(2, 1, 1)}}, []impl.Edge3{{A: v3(0, 1, 1), B: v3(2, 1, 1)}}},
		"parts that touch at a place": {cubes([3]int64{}, [3]int64{1, 1, 1}), 24, 15, nil, nil},
		"parts that touch at a place of an edge": {cubes(block(2, 1, 1)...).with(tetra(whole3(1, 1, 1), whole3(0, 2, 2), whole3(2, 2, 2), whole3(1, 2, 3))), 19, 12,
			[]impl.Edge3{{A: v3(0, 1, 1), B: v3(1, 1, 1)}, {A: v3(1, 1, 1), B: v3(2, 1, 1)}}, []impl.Edge3{{A: v3(0, 1, 1), B: v3(2, 1, 1)}}},
		"edges that cross at a place": {cubes(block(2, 1, 1)...).with(tetra(whole3(1, 0, 2), whole3(1, 2, 0), whole3(0, 2, 2), whole3(2, 2, 2))), 18, 12,
			[]impl.Edge3{{A: v3(0, 1, 1), B: v3(2, 1, 1)}, {A: v3(1, 0, 2), B: v3(1, 2, 0)}}, nil},
		"a hollow": {cubes(less(block(3, 3, 3), [3]int64{1, 1, 1})...), 24, 16, []impl.Edge3{{A: v3(1, 1, 1), B: v3(1, 1, 2)}}, nil},
	} {
		s := checkSkin(t, name, c.of)
		edges := checkEdges(t, name, s)
		corners, _ := impl.Corners(s)
		if len(edges) != c.edges || len(corners) != c.corners {
			t.Error(name, "has", len(edges), "edges and", len(corners), "corners")
		}
		for _, e := range c.has {
			if !slices.Contains(edges, e) {
				t.Error(name, "has the edge", e)
			}
		}
		for _, e := range c.hasNot {
			if slices.Contains(edges, e) {
				t.Error(name, "has not the edge", e)
			}
		}
	}
	s, _ := cubes([3]int64{}).skin()
	edges, _ := impl.EdgesOf(s)
	corners, _ := impl.Corners(s)
	e := func(a, b, c, d, e, f int64) impl.Edge3 { return impl.Edge3{A: v3(a, b, c), B: v3(d, e, f)} }
	if !slices.Equal(edges, []impl.Edge3{
		e(0, 0, 0, 0, 0, 1), e(0, 0, 0, 0, 1, 0), e(0, 0, 0, 1, 0, 0), e(0, 0, 1, 0, 1, 1), e(0, 0, 1, 1, 0, 1), e(0, 1, 0, 0, 1, 1), e(0, 1, 0, 1, 1, 0),
		e(0, 1, 1, 1, 1, 1), e(1, 0, 0, 1, 0, 1), e(1, 0, 0, 1, 1, 0), e(1, 0, 1, 1, 1, 1), e(1, 1, 0, 1, 1, 1),
	}) {
		t.Error("the edges of a cube", edges)
	}
	if !slices.Equal(corners, []impl.V3{v3(0, 0, 0), v3(0, 0, 1), v3(0, 1, 0), v3(0, 1, 1), v3(1, 0, 0), v3(1, 0, 1), v3(1, 1, 0), v3(1, 1, 1)}) {
		t.Error("the corners of a cube", corners)
	}
}

// A box of which one corner is as far away as it can be, and one of very small numbers.
func TestInsideOfExtremes(t *testing.T) {
	great := cubes([3]int64{}).moved(func(p point3) point3 { return p.times(big.NewRat(2*(top/2), 1)).minus(whole3(top/2, top/2, top/2)) })
	small := cubes([3]int64{}).moved(func(p point3) point3 { return p.times(big.NewRat(1, top)) })
	for _, c := range []tetras{great, small, great.moved(func(p point3) point3 { return point3{p[0], plusRat(p[1], timesRat(p[0], big.NewRat(1, 2))), p[2]} })} {
		s := checkSkin(t, c, c)
		checkEdges(t, c, s)
		d := dice(3)
		checkInside(t, c, s, c, d.samples(c, 60))
	}
}
