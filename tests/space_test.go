package tests

import (
	"math/big"
	"slices"

	"loop.example/g00022/impl"
)

// Here solids are told in big numbers as sets of tetrahedra: a side that belongs to one of the set alone is border. The
// program knows of no tetrahedra.

func v3(x, y, z int64) impl.V3 { return impl.V3{X: q(x, 1), Y: q(y, 1), Z: q(z, 1)} }

func pl(a, b, c, d int64) impl.Plane {
	return impl.Plane{A: q(a, 1), B: q(b, 1), C: q(c, 1), D: q(d, 1)}
}

// point3 is a place of space told by big numbers, without limits.
type point3 [3]*big.Rat

func point3Of(v impl.V3) point3 { return point3{rat(v.X), rat(v.Y), rat(v.Z)} }

func whole3(x, y, z int64) point3 {
	return point3{big.NewRat(x, 1), big.NewRat(y, 1), big.NewRat(z, 1)}
}

func points3Of(list []impl.V3) []point3 {
	var points []point3
	for _, v := range list {
		points = append(points, point3Of(v))
	}
	return points
}

func (p point3) place() (impl.V3, bool) {
	x, ok1 := asQ(p[0])
	y, ok2 := asQ(p[1])
	z, ok3 := asQ(p[2])
	if !ok1 || !ok2 || !ok3 {
		return impl.V3{}, false
	}
	return impl.V3{X: x, Y: y, Z: z}, true
}

func (p point3) cmp(o point3) int {
	for i := range p {
		if c := p[i].Cmp(o[i]); c != 0 {
			return c
		}
	}
	return 0
}

func (p point3) minus(o point3) point3 {
	return point3{minusRat(p[0], o[0]), minusRat(p[1], o[1]), minusRat(p[2], o[2])}
}

func (p point3) plus(o point3) point3 {
	return point3{plusRat(p[0], o[0]), plusRat(p[1], o[1]), plusRat(p[2], o[2])}
}

func (p point3) times(k *big.Rat) point3 {
	return point3{timesRat(p[0], k), timesRat(p[1], k), timesRat(p[2], k)}
}

func (p point3) dot(o point3) *big.Rat {
	return plusRat(plusRat(timesRat(p[0], o[0]), timesRat(p[1], o[1])), timesRat(p[2], o[2]))
}

// middleOf is that of all places, as they weigh the same.
func middleOf(list ...point3) point3 {
	sum := whole3(0, 0, 0)
	for _, p := range list {
		sum = sum.plus(p)
	}
	return sum.times(big.NewRat(1, int64(len(list))))
}

// rowDet is the determinant of three rows, by Sarrus.
func rowDet(a, b, c point3) *big.Rat {
	sum := new(big.Rat)
	for i := range 3 {
		j, k := (i+1)%3, (i+2)%3
		sum = plusRat(sum, timesRat(a[i], minusRat(timesRat(b[j], c[k]), timesRat(b[k], c[j]))))
	}
	return sum
}

// turnOf is above 0 where d is behind the plane of a, b, c, from whose ahead side they turn left.
func turnOf(a, b, c, d point3) int { return -rowDet(b.minus(a), c.minus(a), d.minus(a)).Sign() }

// numbersOf tells A, B, C, D of the plane through three places as the four determinants of their numbers and 1, not yet scaled.
func numbersOf(a, b, c point3) [4]*big.Rat {
	one := big.NewRat(1, 1)
	column := func(i int) point3 { return point3{a[i], b[i], c[i]} }
	ones := point3{one, one, one}
	return [4]*big.Rat{
		rowDet(column(1), column(2), ones), rowDet(column(2), column(0), ones), rowDet(column(0), column(1), ones),
		rowDet(column(0), column(1), column(2)),
	}
}

// planeAs scales numbers by the size of the first that is not 0; false where there is none, or one is no Q.
func planeAs(numbers [4]*big.Rat) (impl.Plane, bool) {
	for _, n := range numbers[:3] {
		if n.Sign() == 0 {
			continue
		}
		var list [4]impl.Q
		for i, o := range numbers {
			var ok bool
			if list[i], ok = asQ(new(big.Rat).Quo(o, new(big.Rat).Abs(n))); !ok {
				return impl.Plane{}, false
			}
		}
		return impl.Plane{A: list[0], B: list[1], C: list[2], D: list[3]}, true
	}
	return impl.Plane{}, false
}

func wantPlane(a, b, c point3) (impl.Plane, bool) { return planeAs(numbersOf(a, b, c)) }

func normalOf(p impl.Plane) point3 { return point3{rat(p.A), rat(p.B), rat(p.C)} }

// over is how far v is ahead of p.
func over(p impl.Plane, v point3) *big.Rat { return minusRat(normalOf(p).dot(v), rat(p.D)) }

// keptBy tells which numbers of a place are kept when it is dropped, and which is not.
func keptBy(p impl.Plane) [3]int {
	switch {
	case p.C.Num != 0:
		return [3]int{0, 1, 2}
	case p.B.Num != 0:
		return [3]int{0, 2, 1}
	}
	return [3]int{1, 2, 0}
}

func dropped(p impl.Plane, v point3) point {
	k := keptBy(p)
	return point{v[k[0]], v[k[1]]}
}

func lifted(p impl.Plane, o point) point3 {
	k, n := keptBy(p), normalOf(p)
	flat := whole3(0, 0, 0)
	flat[k[0]], flat[k[1]] = o.x, o.y
	flat[k[2]] = new(big.Rat).Quo(new(big.Rat).Neg(over(p, flat)), n[k[2]])
	return flat
}

// A side3 is a triangle of three places that turn left as seen from outside.
type side3 [3]point3

// tetras are tetrahedra of four of the places each; where two meet they have a whole side, edge or corner in common.
type tetras struct {
	places []point3
	list   [][4]int
}

// cubes are whole cubes, each of six tetrahedra along the ways from its least corner to its greatest.
func cubes(cells ...[3]int64) tetras {
	var all tetras
	number := func(v [3]int64) int {
		p := whole3(v[0], v[1], v[2])
		at := slices.IndexFunc(all.places, func(o point3) bool { return o.cmp(p) == 0 })
		if at < 0 {
			all.places = append(all.places, p)
			return len(all.places) - 1
		}
		return at
	}
	for _, cell := range cells {
		for _, way := range orders(3) {
			v, tetra := cell, [4]int{number(cell)}
			for k, axis := range way {
				v[axis]++
				tetra[k+1] = number(v)
			}
			all.list = append(all.list, tetra)
		}
	}
	return all
}

// block is all cubes from the origin to a place.
func block(x, y, z int64) [][3]int64 {
	var cells [][3]int64
	for i := range x {
		for j := range y {
			for k := range z {
				cells = append(cells, [3]int64{i, j, k})
			}
		}
	}
	return cells
}

func (c tetras) corners(k int) [4]point3 {
	t := c.list[k]
	return [4]point3{c.places[t[0]], c.places[t[1]], c.places[t[2]], c.places[t[3]]}
}

// some are those whose numbers are told.
func (c tetras) some(keep func(int) bool) tetras {
	list := [][4]int(nil)
	for k, t := range c.list {
		if keep(k) {
			list = append(list, t)
		}
	}
	return tetras{c.places, list}
}

// tetra is one alone.
func tetra(a, b, c, d point3) tetras { return tetras{[]point3{a, b, c, d}, [][4]int{{0, 1, 2, 3}}} }

// with is c and, beside it, o, which has no more than edges and places in common with it.
func (c tetras) with(o tetras) tetras {
	all := tetras{slices.Concat(c.places, o.places), slices.Clone(c.list)}
	for _, t := range o.list {
		n := len(c.places)
		all.list = append(all.list, [4]int{t[0] + n, t[1] + n, t[2] + n, t[3] + n})
	}
	return all
}

func (c tetras) moved(to func(point3) point3) tetras {
	var places []point3
	for _, p := range c.places {
		places = append(places, to(p))
	}
	return tetras{places, c.list}
}

// A facet is a side of tetrahedron at; beyond is the one on its other side, or -1.
type facet struct {
	key        [3]int
	at, beyond int
}

// facets tells each side once.
func (c tetras) facets() []facet {
	var list []facet
	known := map[[3]int]int{}
	for k, t := range c.list {
		for out := range 4 {
			var key [3]int
			copy(key[:], slices.Delete(slices.Clone(t[:]), out, out+1))
			slices.Sort(key[:])
			if at, ok := known[key]; ok {
				list[at].beyond = k
			} else {
				known[key] = len(list)
				list = append(list, facet{key, k, -1})
			}
		}
	}
	return list
}

// sideOf is the facet as seen from outside where tetrahedron in is inside.
func (c tetras) sideOf(f facet, in int) side3 {
	s := side3{c.places[f.key[0]], c.places[f.key[1]], c.places[f.key[2]]}
	for _, p := range c.corners(in) {
		if turn := turnOf(s[0], s[1], s[2], p); turn != 0 {
			if turn < 0 {
				s[1], s[2] = s[2], s[1]
			}
			return s
		}
	}
	panic("a flat tetrahedron")
}

// border is all sides that belong to one tetrahedron alone.
func (c tetras) border() []side3 {
	var list []side3
	for _, f := range c.facets() {
		if f.beyond < 0 {
			list = append(list, c.sideOf(f, f.at))
		}
	}
	return list
}

func (c tetras) skin() (impl.Solid, bool) { return skinOf(c.border()) }

// volume6 is six times the volume.
func (c tetras) volume6() *big.Rat {
	sum := new(big.Rat)
	for k := range c.list {
		t := c.corners(k)
		det := rowDet(t[1].minus(t[0]), t[2].minus(t[0]), t[3].minus(t[0]))
		sum = plusRat(sum, det.Abs(det))
	}
	return sum
}

// wheres tells by the border's triangles that have a place, and by the tetrahedra that have it, what Inside should.
func (c tetras) wheres() func(point3) int64 {
	sides := c.border()
	return func(p point3) int64 {
		if slices.ContainsFunc(sides, func(s side3) bool { return s.has(p) }) {
			return impl.WhereOn
		}
		for k := range c.list {
			if inTetra(c.corners(k), p) {
				return impl.WhereIn
			}
		}
		return impl.WhereOut
	}
}

// isApart tells sooner than all else that p is far from what has these corners.
func isApart(p point3, corners ...point3) bool {
	for i := range p {
		low, high := true, true
		for _, c := range corners {
			order := p[i].Cmp(c[i])
			low, high = low && order < 0, high && order > 0
		}
		if low || high {
			return true
		}
	}
	return false
}

func inTetra(t [4]point3, p point3) bool {
	if isApart(p, t[:]...) {
		return false
	}
	for out := range 4 {
		a, b, c := t[(out+1)%4], t[(out+2)%4], t[(out+3)%4]
		if turnOf(a, b, c, t[out])*turnOf(a, b, c, p) < 0 {
			return false
		}
	}
	return true
}

// has goes by the three triangles that p makes with two corners each: in the plane, and none turned over.
func (s side3) has(p point3) bool {
	if isApart(p, s[:]...) || turnOf(s[0], s[1], s[2], p) != 0 {
		return false
	}
	up := normalAt(s[0], s[1], s[2])
	for i := range s {
		if normalAt(s[i], s[(i+1)%3], p).dot(up).Sign() < 0 {
			return false
		}
	}
	return true
}

func normalAt(a, b, c point3) point3 {
	n := numbersOf(a, b, c)
	return point3{n[0], n[1], n[2]}
}

// skinOf puts triangles that have whole edges in common together to the faces of a skin, if they are one. False where a
// number is no Q, or there are too many.
func skinOf(sides []side3) (impl.Solid, bool) {
	on := map[impl.Plane][]side3{}
	var planes []impl.Plane
	for _, s := range sides {
		p, ok := wantPlane(s[0], s[1], s[2])
		if !ok {
			return impl.Solid{}, false
		}
		if on[p] == nil {
			planes = append(planes, p)
		}
		on[p] = append(on[p], s)
	}
	slices.SortFunc(planes, comparePlanes)
	var solid impl.Solid
	for _, p := range planes {
		loops, ok := flatOutline(p, on[p])
		if !ok {
			return impl.Solid{}, false
		}
		solid.Faces = append(solid.Faces, impl.Face{Plane: p, Region: impl.Region{Loops: loops}})
	}
	return solid, len(solid.Faces) <= 40 && countRims(solid) <= 160
}

func comparePlanes(a, b impl.Plane) int {
	x, y := []impl.Q{a.A, a.B, a.C, a.D}, []impl.Q{b.A, b.B, b.C, b.D}
	return slices.CompareFunc(x, y, func(f, g impl.Q) int { return rat(f).Cmp(rat(g)) })
}

func countRims(s impl.Solid) int {
	count := 0
	for _, f := range s.Faces {
		count += countPlaces(f.Region.Loops)
	}
	return count
}

// flatOutline leaves out the edges between two of the triangles.
func flatOutline(p impl.Plane, sides []side3) ([][]impl.V, bool) {
	var edges []pointEdge
	for _, s := range sides {
		a, b, c := dropped(p, s[0]), dropped(p, s[1]), dropped(p, s[2])
		if side(a, b, c) < 0 {
			b, c = c, b
		}
		for _, e := range []pointEdge{{a, b}, {b, c}, {c, a}} {
			back := slices.IndexFunc(edges, func(o pointEdge) bool { return o.a.cmp(e.b) == 0 && o.b.cmp(e.a) == 0 })
			if back >= 0 {
				edges = slices.Delete(edges, back, back+1)
			} else {
				edges = append(edges, e)
			}
		}
	}
	return toldOutline(edges)
}

func sameSolids(a, b impl.Solid) bool {
	return slices.EqualFunc(a.Faces, b.Faces, func(f, g impl.Face) bool {
		return f.Plane == g.Plane && sameLoops(f.Region.Loops, g.Region.Loops)
	})
}

// edges3 are the edges of all loops of a skin, lifted, from the lesser end to the greater.
func edges3(s impl.Solid) [][2]point3 {
	var list [][2]point3
	for _, f := range s.Faces {
		for _, e := range edgesOf(pointLoops(f.Region.Loops)) {
			a, b := lifted(f.Plane, e.a), lifted(f.Plane, e.b)
			if a.cmp(b) > 0 {
				a, b = b, a
			}
			list = append(list, [2]point3{a, b})
		}
	}
	return list
}

// volumeOf adds up the pyramids from the origin to all faces, each loop cut up from its first place.
func volumeOf(s impl.Solid) *big.Rat {
	sum := new(big.Rat)
	for _, f := range s.Faces {
		for _, loop := range pointLoops(f.Region.Loops) {
			for i := 2; i < len(loop); i++ {
				a, b, c := lifted(f.Plane, loop[0]), lifted(f.Plane, loop[i-1]), lifted(f.Plane, loop[i])
				det := rowDet(a, b, c)
				// Round to the left when dropped is round to the right from ahead, for some planes.
				if k := keptBy(f.Plane); normalOf(f.Plane)[k[2]].Sign() < 0 != (k == [3]int{0, 2, 1}) {
					det.Neg(det)
				}
				sum = plusRat(sum, det)
			}
		}
	}
	return timesRat(sum, big.NewRat(1, 6))
}
