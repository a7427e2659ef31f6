package tests

import (
	"math/big"
	"slices"
	"testing"

	"loop.example/g00022/impl"
)

// Promise 16: solids of meshes.

// meshOfSides numbers the corners of triangles as they come.
func meshOfSides(sides []side3) impl.Mesh {
	var m impl.Mesh
	for _, s := range sides {
		var at [3]int64
		for i, p := range s {
			v, _ := p.place()
			if !slices.Contains(m.Verts, v) {
				m.Verts = append(m.Verts, v)
			}
			at[i] = int64(slices.Index(m.Verts, v))
		}
		m.Tris = append(m.Tris, triAny(at[0], at[1], at[2]))
	}
	return m
}

// sidesOfMesh tells where the corners are.
func sidesOfMesh(m impl.Mesh) []side3 {
	var list []side3
	for _, t := range m.Tris {
		list = append(list, side3{point3Of(m.Verts[t.A]), point3Of(m.Verts[t.B]), point3Of(m.Verts[t.C])})
	}
	return list
}

// wantSolidOf tells what the triangles of a mesh that is ok leave of each plane, in big numbers and by trying; what is no skin
// is left to SolidOk.
func wantSolidOf(m impl.Mesh) (impl.Solid, bool) {
	on := map[impl.Plane][][]point{}
	for _, s := range sidesOfMesh(m) {
		p, ok := wantPlane(s[0], s[1], s[2])
		if !ok {
			return impl.Solid{}, false
		}
		on[p] = append(on[p], []point{dropped(p, s[0]), dropped(p, s[1]), dropped(p, s[2])})
	}
	var solid impl.Solid
	for p, loops := range on {
		outline, ok := wantRegion(loops)
		if !ok {
			return impl.Solid{}, false
		}
		if len(outline) > 0 {
			solid.Faces = append(solid.Faces, impl.Face{Plane: p, Region: impl.Region{Loops: outline}})
		}
	}
	solid = sortFaces(solid)
	if !impl.SolidOk(solid) {
		return impl.Solid{}, false
	}
	return solid, true
}

func checkSolidOf(t *testing.T, name any, m impl.Mesh) (impl.Solid, bool) {
	t.Helper()
	want, fine := wantSolidOf(m)
	s, ok := impl.SolidOf(m)
	if !impl.MeshOk(m) || ok != fine || !sameSolids(s, want) {
		t.Fatal(name, m, "is the solid", s, ok, "not", want, fine)
	}
	return s, ok
}

// isSolid asks a mesh to be just this solid.
func isSolid(t *testing.T, name any, m impl.Mesh, want impl.Solid) {
	t.Helper()
	if s, ok := impl.SolidOf(m); !ok || !sameSolids(s, want) {
		t.Error(name, m, "is the solid", s, ok, "not", want)
	}
}

func isNoSolidOf(t *testing.T, name any, m impl.Mesh) {
	t.Helper()
	if s, ok := impl.SolidOf(m); !impl.MeshOk(m) || !isNoSolid(s, ok) {
		t.Error(name, m, "is the solid", s, ok)
	}
}

// renumbered has the places, and some more, in another order, and the triangles too.
func (d *dice) renumbered(m impl.Mesh, more ...impl.V3) impl.Mesh {
	verts := slices.Concat(m.Verts, more)
	at := make([]int64, len(verts))
	for i := range at {
		at[i] = int64(i)
	}
	for i := range at {
		k := i + int(d.next()%uint64(len(at)-i))
		at[i], at[k] = at[k], at[i]
	}
	o := impl.Mesh{Verts: make([]impl.V3, len(verts))}
	for i, v := range verts {
		o.Verts[at[i]] = v
	}
	for _, t := range m.Tris {
		o.Tris = slices.Insert(o.Tris, int(d.next()%uint64(len(o.Tris)+1)), triAny(at[t.A], at[t.B], at[t.C]))
	}
	return o
}

// apart has places for each triangle alone.
func apart(m impl.Mesh) impl.Mesh {
	var o impl.Mesh
	for _, t := range m.Tris {
		n := int64(len(o.Verts))
		o.Verts = append(o.Verts, m.Verts[t.A], m.Verts[t.B], m.Verts[t.C])
		o.Tris = append(o.Tris, tri(n, n+1, n+2))
	}
	return o
}

// putTo adds triangles at places that are told.
func putTo(m impl.Mesh, sides ...[3]impl.V3) impl.Mesh {
	m = copyMesh(m)
	for _, s := range sides {
		n := int64(len(m.Verts))
		m.Verts = append(m.Verts, s[0], s[1], s[2])
		m.Tris = append(m.Tris, tri(n, n+1, n+2))
	}
	return m
}

// eared cuts faces of one loop each into ears.
func eared(t *testing.T, s impl.Solid) impl.Mesh {
	t.Helper()
	var sides []side3
	for _, f := range s.Faces {
		tris, ok := impl.Ears(f.Region.Loops[0])
		if !ok || len(f.Region.Loops) != 1 {
			t.Fatal("no ears of", f)
		}
		loop := pointsOf(f.Region.Loops[0])
		for _, e := range tris {
			side := side3{lifted(f.Plane, loop[e.A]), lifted(f.Plane, loop[e.B]), lifted(f.Plane, loop[e.C])}
			if normalAt(side[0], side[1], side[2]).dot(normalOf(f.Plane)).Sign() < 0 {
				side[1], side[2] = side[2], side[1]
			}
			sides = append(sides, side)
		}
	}
	return meshOfSides(sides)
}

func TestSolidsOfMeshes(t *testing.T) {
	t.Parallel()
	d := dice(16)
	told, lonely := 0, 0
	for _, c := range solidCases() {
		for _, o := range []tetras{c.of, c.of.moved(aslant)} {
			s, ok := o.skin()
			m := meshOfSides(o.border())
			if !ok || len(m.Tris) > impl.MaxMesh || len(m.Verts)+2 > impl.MaxVerts {
				continue
			}
			told++
			isSolid(t, c.name, m, s)
			isSolid(t, c.name+" renumbered", d.renumbered(m), s)
			isSolid(t, c.name+" with other places", d.renumbered(m, v3(1, 1, 1), v3(top, -top, 0)), s)
			if 3*len(m.Tris) <= impl.MaxVerts {
				lonely++
				isSolid(t, c.name+" with places for each triangle", d.renumbered(apart(m)), s)
			}
		}
	}
	if told < 60 || lonely < 30 {
		t.Error("too few of a kind", told, lonely)
	}
	for _, i := range []int{1, 2, 4, 5, 6, 7} {
		s, _ := solidCases()[i].of.skin()
		m := eared(t, s)
		isSolid(t, "cut into ears", m, s)
		isSolid(t, "cut into ears, renumbered", d.renumbered(m), s)
	}
	for _, m := range []impl.Mesh{{}, {Verts: placesInRow(200)}, {Verts: []impl.V3{v3(top, top, -top)}, Tris: []impl.Tri{}}} {
		if s, ok := impl.SolidOf(m); !ok || len(s.Faces) > 0 {
			t.Error("no triangle leaves", s, ok)
		}
	}
}

// Meshes that are no solids: each triangle left out, turned, or there twice, and all turned.
func TestSolidsOfOpenMeshes(t *testing.T) {
	t.Parallel()
	for _, i := range []int{1, 2, 4, 7, 10, 12, 18, 20, 21, 33} {
		c := solidCases()[i]
		s, _ := c.of.skin()
		m := meshOfSides(c.of.border())
		isSolid(t, c.name, m, s)
		back := impl.Mesh{Verts: m.Verts}
		for k, f := range m.Tris {
			back.Tris = append(back.Tris, tri(f.A, f.C, f.B))
			open := impl.Mesh{Verts: m.Verts, Tris: slices.Delete(slices.Clone(m.Tris), k, k+1)}
			isNoSolidOf(t, c.name+" open", open)
			isNoSolidOf(t, c.name+" with a triangle twice", impl.Mesh{Verts: m.Verts, Tris: append(slices.Clone(m.Tris), f)})
			isSolid(t, c.name+" with a triangle three times", impl.Mesh{Verts: m.Verts, Tris: append(slices.Clone(m.Tris), f, f)}, s)
			turned := copyMesh(m)
			turned.Tris[k] = tri(f.A, f.C, f.B)
			isNoSolidOf(t, c.name+" with a triangle turned", turned)
			isNoSolidOf(t, c.name+" with a triangle both ways", impl.Mesh{Verts: m.Verts, Tris: append(slices.Clone(m.Tris), turned.Tris[k])})
		}
		isNoSolidOf(t, c.name+" turned", back)
		isNoSolidOf(t, c.name+" both ways", impl.Mesh{Verts: m.Verts, Tris: slices.Concat(m.Tris, back.Tris)})
		twice := slices.Concat(m.Tris, m.Tris)
		isSolid(t, c.name+" twice", impl.Mesh{Verts: m.Verts, Tris: twice}, impl.Solid{})
		if 3*len(m.Tris) <= impl.MaxMesh {
			isSolid(t, c.name+" three times", impl.Mesh{Verts: m.Verts, Tris: slices.Concat(twice, m.Tris)}, s)
		}
	}
}

// A face may be told by triangles that lie on one another, in any way that leaves it.
func TestSolidsOfMeshesThatOverlap(t *testing.T) {
	t.Parallel()
	cube, _ := impl.Box(v3(0, 0, 0), v3(2, 2, 2))
	whole, _ := impl.MeshOf(cube)
	// Without the face Z = 2.
	rest := impl.Mesh{Verts: whole.Verts, Tris: slices.DeleteFunc(slices.Clone(whole.Tris), func(f impl.Tri) bool {
		return whole.Verts[f.A].Z.Num+whole.Verts[f.B].Z.Num+whole.Verts[f.C].Z.Num == 6
	})}
	if len(rest.Tris) != 10 {
		t.Fatal("the rest of a cube", rest)
	}
	up := func(xy ...int64) [3]impl.V3 {
		return [3]impl.V3{v3(xy[0], xy[1], 2), v3(xy[2], xy[3], 2), v3(xy[4], xy[5], 2)}
	}
	for name, c := range map[string]struct {
		sides [][3]impl.V3
		fine  bool
	}{
		"two halves":             {[][3]impl.V3{up(0, 0, 2, 0, 2, 2), up(0, 0, 2, 2, 0, 2)}, true},
		"the other halves":       {[][3]impl.V3{up(2, 0, 2, 2, 0, 2), up(0, 2, 0, 0, 2, 0)}, true},
		"four":                   {[][3]impl.V3{up(1, 1, 0, 0, 2, 0), up(1, 1, 2, 0, 2, 2), up(1, 1, 2, 2, 0, 2), up(1, 1, 0, 2, 0, 0)}, true},
		"a great one less two":   {[][3]impl.V3{up(0, 0, 4, 0, 0, 4), up(2, 0, 4, 0, 2, 2), up(0, 2, 2, 2, 0, 4)}, true},
		"less two with an edge":  {[][3]impl.V3{up(0, 0, 4, 0, 0, 4), up(4, 0, 2, 2, 2, 0), up(0, 4, 0, 2, 2, 2)}, true},
		"one twice beside":       {[][3]impl.V3{up(0, 0, 2, 0, 2, 2), up(0, 0, 2, 2, 0, 2), up(5, 5, 7, 5, 5, 9), up(5, 5, 7, 5, 5, 9)}, true},
		"one twice on it":        {[][3]impl.V3{up(0, 0, 2, 0, 2, 2), up(0, 0, 2, 2, 0, 2), up(-1, 1, 7, 1, 1, 9), up(1, 9, -1, 1, 7, 1)}, true},
		"halves three times":     {[][3]impl.V3{up(0, 0, 2, 0, 2, 2), up(0, 0, 2, 2, 0, 2), up(0, 0, 2, 0, 2, 2), up(0, 0, 2, 2, 0, 2), up(0, 0, 2, 0, 2, 2), up(0, 0, 2, 2, 0, 2)}, true},
		"halves twice":           {[][3]impl.V3{up(0, 0, 2, 0, 2, 2), up(0, 0, 2, 2, 0, 2), up(0, 0, 2, 0, 2, 2), up(0, 0, 2, 2, 0, 2)}, false},
		"halves that cross":      {[][3]impl.V3{up(0, 0, 2, 0, 2, 2), up(2, 0, 2, 2, 0, 2)}, false},
		"a great one less one":   {[][3]impl.V3{up(0, 0, 4, 0, 0, 4), up(2, 0, 4, 0, 2, 2)}, false},
		"one half":               {[][3]impl.V3{up(0, 0, 2, 0, 2, 2)}, false},
		"one half turned":        {[][3]impl.V3{up(0, 0, 2, 0, 2, 2), up(0, 0, 0, 2, 2, 2)}, false},
		"all turned":             {[][3]impl.V3{up(0, 0, 2, 2, 2, 0), up(0, 0, 0, 2, 2, 2)}, false},
		"one triangle on a line": {[][3]impl.V3{up(0, 0, 2, 0, 2, 2), up(0, 0, 2, 2, 0, 2), up(0, 0, 1, 1, 2, 2)}, false},
		"one at a place":         {[][3]impl.V3{up(0, 0, 2, 0, 2, 2), up(0, 0, 2, 2, 0, 2), up(7, 7, 7, 7, 7, 7)}, false},
		"on a line twice":        {[][3]impl.V3{up(0, 0, 2, 0, 2, 2), up(0, 0, 2, 2, 0, 2), up(0, 0, 1, 1, 2, 2), up(0, 0, 1, 1, 2, 2)}, false},
		"with two places alike":  {[][3]impl.V3{up(0, 0, 2, 0, 2, 2), up(0, 0, 2, 2, 0, 2), up(0, 0, 9, 1, 0, 0)}, false},
	} {
		m := putTo(rest, c.sides...)
		if s, ok := checkSolidOf(t, name, m); ok != c.fine || ok && !sameSolids(s, cube) {
			t.Error(name, "is", s, ok)
		}
	}
}

// A triangle and the four that it is cut into leave nothing, wherever they lie; nor do two of one plane and the other two
// halves of their square.
func TestSolidsOfMeshesWithMore(t *testing.T) {
	t.Parallel()
	d := dice(5)
	for _, i := range []int{0, 1, 2, 7, 12, 20, 33} {
		c := solidCases()[i]
		s, _ := c.of.skin()
		m := meshOfSides(c.of.border())
		for range 12 {
			o := m
			for range 1 + d.next()%3 {
				one := impl.Mesh{Verts: []impl.V3{v3(d.upTo(6), d.upTo(6), d.upTo(6)), v3(d.upTo(6), d.upTo(6), d.upTo(6)), v3(d.upTo(6), d.upTo(6), d.upTo(6))}, Tris: []impl.Tri{tri(0, 1, 2)}}
				four, _ := impl.Subdivide(one)
				for _, f := range slices.Concat(one.Tris, four.Tris) {
					o = putTo(o, [3]impl.V3{four.Verts[f.A], four.Verts[f.B], four.Verts[f.C]})
				}
			}
			if _, ok := impl.Repair(o); !ok || len(o.Verts) > impl.MaxVerts {
				continue
			}
			got, ok := impl.SolidOf(o)
			if flat := slices.ContainsFunc(sidesOfMesh(o), func(s side3) bool { return normalAt(s[0], s[1], s[2]).cmp(whole3(0, 0, 0)) == 0 }); flat {
				if !isNoSolid(got, ok) {
					t.Error(c.name, "with a triangle on a line is", got)
				}
			} else if !ok || !sameSolids(got, s) {
				t.Error(c.name, "with what leaves nothing is", got, ok, "not", s)
			}
		}
	}
}

// Triangles of few places: most leave no solid, some leave one, many lie on one another.
func TestSolidsOfAnyTriangles(t *testing.T) {
	t.Parallel()
	d := dice(3)
	fine, empty, flat := 0, 0, 0
	for range 1500 {
		n := 4 + int64(d.next()%3)
		var m impl.Mesh
		for range n {
			m.Verts = append(m.Verts, v3(int64(d.next()%2), int64(d.next()%2), int64(d.next()%2)))
		}
		for range 1 + d.next()%8 {
			a, b, c := int64(d.next())%n, int64(d.next())%n, int64(d.next())%n
			if a, b, c = max(a, -a), max(b, -b), max(c, -c); a != b && b != c && a != c {
				m.Tris = append(m.Tris, triAny(a, b, c))
			}
		}
		s, ok := checkSolidOf(t, "any triangles", m)
		switch {
		case !ok:
			flat++
		case len(s.Faces) == 0:
			empty++
		default:
			fine++
		}
	}
	if empty < 20 || flat < 200 {
		t.Error("too few of a kind", fine, empty, flat)
	}
	// Four triangles of a tetrahedron, each way round: only one way of sixteen is a solid.
	for k := range 16 {
		m := meshBy([]int64{0, 0, 0, 1, 0, 0, 0, 1, 0, 0, 0, 1})
		for i, f := range []impl.Tri{tri(0, 2, 1), tri(0, 1, 3), tri(0, 3, 2), tri(1, 2, 3)} {
			if k>>i&1 == 1 {
				f = tri(f.A, f.C, f.B)
			}
			m.Tris = append(m.Tris, f)
		}
		if _, ok := checkSolidOf(t, "a tetrahedron", m); ok != (k == 0) {
			t.Error("turned by", k, "it is a solid:", ok)
		}
	}
}

func TestSolidsOfMeshesWithGreatNumbers(t *testing.T) {
	cube, _ := impl.Box(v3(0, 0, 0), v3(2, 2, 2))
	m, _ := impl.MeshOf(cube)
	v := func(x, y, z impl.Q) impl.V3 { return impl.V3{X: x, Y: y, Z: z} }
	one := func(n int64) impl.Q { return q(n, 1) }
	for name, c := range map[string]struct {
		side [3]impl.V3
		fine bool
	}{
		"small":                {[3]impl.V3{v3(0, 0, 0), v3(5, 1, 3), v3(5, 7, 1)}, true},
		"great":                {[3]impl.V3{v3(0, 0, 0), v3(top, 0, 0), v3(0, top, 0)}, true},
		"great ones that fit":  {[3]impl.V3{v3(top, 0, 0), v3(0, top-1, 0), v3(0, 0, top-2)}, true},
		"A, B, C are no Qs":    {[3]impl.V3{v3(0, 0, 0), v3(top, 1, 3), v3(5, top, 1)}, false},
		"B is no Q":            {[3]impl.V3{v3(0, 0, 0), v(one(top), q(1, 7), one(0)), v3(0, 0, 1)}, false},
		"B is a Q":             {[3]impl.V3{v3(0, 0, 0), v(one(top/7), q(1, 7), one(0)), v3(0, 0, 1)}, true},
		"C is no Q":            {[3]impl.V3{v3(0, 0, 0), v(one(top), one(0), q(1, 7)), v3(0, 1, 0)}, false},
		"C is no Q, A 0":       {[3]impl.V3{v3(0, 0, 0), v(one(0), one(top), q(1, 7)), v3(1, 0, 0)}, false},
		"B and C are no Qs":    {[3]impl.V3{v(q(1, top), one(0), one(0)), v(q(1, top), one(1), one(1)), v(q(1, top-1), one(1), one(3))}, false},
		"D is 0":               {[3]impl.V3{v3(top, top, 0), v3(top, top, 1), v3(top-1, top-1, 2)}, true},
		"D is the limit":       {[3]impl.V3{v3(top, top, 0), v3(top, top, 1), v3(top-1, top, 2)}, true},
		"D is twice the limit": {[3]impl.V3{v3(top, top, 0), v3(top-1, top, 1), v3(top, top-1, 1)}, false},
	} {
		// Twice the same triangle leaves nothing, but its plane is asked for.
		o := putTo(m, c.side, c.side)
		s, ok := checkSolidOf(t, name, o)
		if ok != c.fine || ok && !sameSolids(s, cube) {
			t.Error(name, "is", s, ok)
		}
	}
}

// The outline of what is left has places that are no Vs, or there are too many faces or places.
func TestLimitsOfSolidsOfMeshes(t *testing.T) {
	t.Parallel()
	for _, c := range []struct {
		fours, fives, sixes int
		want                bool
	}{
		{10, 0, 0, true}, {9, 1, 0, false}, {5, 4, 0, true}, {2, 1, 5, true}, {1, 2, 5, false}, {0, 0, 6, true}, {0, 0, 7, false},
	} {
		var parts []side3
		x := int64(0)
		put := func(n int, step int64, of tetras) {
			for range n {
				k := step * int64(len(parts))
				for _, s := range of.border() {
					for i := range s {
						s[i] = s[i].plus(whole3(x, k, k))
					}
					parts = append(parts, s)
				}
				x += 20
			}
		}
		put(c.fours, 1, tt(0, 0, 0, 3, 1, 0, 1, 2, 1, 1, 1, 4))
		put(c.fives, 1, pyramid(whole3(1, 1, 3)).moved(aslant))
		put(c.sixes, 0, cubes([3]int64{}))
		m := meshOfSides(parts)
		s, ok := impl.SolidOf(m)
		if !impl.MeshOk(m) || ok != c.want || !ok && !isNoSolid(s, ok) {
			t.Error(c, "is a solid:", ok)
		}
		if ok && (len(s.Faces) != facesInRow(c.fours, c.fives, c.sixes) || countRims(s) != rimsInRow(c.fours, c.fives, c.sixes)) {
			t.Error(c, "has", len(s.Faces), countRims(s))
		}
	}
	// Many triangles of one plane, which leave more places than an outline may have, or none at all.
	var m impl.Mesh
	for i := range int64(60) {
		m = putTo(m, [3]impl.V3{v3(3*i, 0, 0), v3(3*i+1, 0, 0), v3(3*i, 1, 0)})
	}
	isNoSolidOf(t, "60 triangles", m)
	m.Tris = append(m.Tris, m.Tris...)
	isSolid(t, "60 triangles twice", m, impl.Solid{})
	m.Tris = append(m.Tris, m.Tris...)
	isSolid(t, "60 triangles four times", m, impl.Solid{})
	// Two that cross at places that are no Vs.
	a, b := int64(999999937), int64(999999893)
	cross := [][3]impl.V3{{v3(0, 0, 0), v3(a, 1, 0), v3(0, b, 0)}, {v3(1, -1, 0), v3(b, a, 0), v3(-3, b, 0)}}
	cube, _ := impl.Box(v3(5, 5, 5), v3(6, 6, 6))
	whole, _ := impl.MeshOf(cube)
	checkSolidOf(t, "two that cross", putTo(whole, cross...))
	isSolid(t, "two that cross, twice", putTo(putTo(whole, cross...), cross...), cube)
	// Two planes that look at one another.
	low, _ := impl.Box(v3(0, 0, 0), v3(1, 1, 1))
	high, _ := impl.Box(v3(1, 1, 1), v3(2, 2, 2))
	both, _ := impl.Join(low, high, impl.OpOr)
	one, _ := impl.MeshOf(low)
	two, _ := impl.MeshOf(high)
	isSolid(t, "boxes that touch", putTo(one, trianglesOf(two)...), both)
	beside, _ := impl.Box(v3(1, 0, 0), v3(2, 1, 1))
	three, _ := impl.MeshOf(beside)
	isNoSolidOf(t, "boxes with a face in common", putTo(one, trianglesOf(three)...))
	isSolid(t, "nothing, twice told", impl.Mesh{Verts: one.Verts, Tris: slices.Concat(one.Tris, one.Tris)}, impl.Solid{})
}

func trianglesOf(m impl.Mesh) [][3]impl.V3 {
	var list [][3]impl.V3
	for _, t := range m.Tris {
		list = append(list, [3]impl.V3{m.Verts[t.A], m.Verts[t.B], m.Verts[t.C]})
	}
	return list
}

// Volumes of meshes, by their triangles alone, are those of their solids.
func TestVolumesOfMeshes(t *testing.T) {
	for _, c := range solidCases() {
		s, _ := c.of.skin()
		m, ok := impl.MeshOf(s)
		if !ok {
			continue
		}
		sum := new(big.Rat)
		for _, side := range sidesOfMesh(m) {
			sum = plusRat(sum, rowDet(side[0], side[1], side[2]))
		}
		if sum.Cmp(c.of.volume6()) != 0 {
			t.Error(c.name, "has six times the volume", sum, "not", c.of.volume6())
		}
	}
}
