package tests

import (
	"math/big"
	"slices"
	"testing"

	"loop.example/g00022/impl"
)

// Promise 16: meshes, and those of solids.

// meshBy has places of three whole numbers each.
func meshBy(xyz []int64, tris ...impl.Tri) impl.Mesh {
	m := impl.Mesh{Tris: tris}
	for c := range slices.Chunk(xyz, 3) {
		m.Verts = append(m.Verts, v3(c[0], c[1], c[2]))
	}
	return m
}

func sameMeshes(a, b impl.Mesh) bool {
	return slices.Equal(a.Verts, b.Verts) && slices.Equal(a.Tris, b.Tris)
}

func copyMesh(m impl.Mesh) impl.Mesh {
	return impl.Mesh{Verts: slices.Clone(m.Verts), Tris: slices.Clone(m.Tris)}
}

func isNoMesh(m impl.Mesh, ok bool) bool { return !ok && len(m.Verts)+len(m.Tris) == 0 }

// placesInRow are so many unlike places, no three of them on one line.
func placesInRow(n int) []impl.V3 {
	var list []impl.V3
	for i := range int64(n) {
		list = append(list, v3(i, i*i, i*i*i))
	}
	return list
}

// fansOf are so many unlike triangles of the places of placesInRow(n).
func fansOf(n, count int) []impl.Tri {
	var list []impl.Tri
	for a := range n {
		for b := a + 1; b < n; b++ {
			for c := b + 1; c < n && len(list) < count; c++ {
				list = append(list, tri(int64(a), int64(b), int64(c)))
			}
		}
	}
	return list
}

// checkNotMeshOk asks all functions that want a mesh to be as it should.
func checkNotMeshOk(t *testing.T, name any, m impl.Mesh) {
	t.Helper()
	was := copyMesh(m)
	if impl.MeshOk(m) {
		t.Error(name, "is a mesh:", m)
	}
	s, ok1 := impl.SolidOf(m)
	r, ok2 := impl.Repair(m)
	four, ok3 := impl.Subdivide(m)
	b, ok4 := impl.PackMesh(m)
	if !isNoSolid(s, ok1) || !isNoMesh(r, ok2) || !isNoMesh(four, ok3) || ok4 || len(b) > 0 {
		t.Error(name, "is no mesh, but is told", s, r, four, b, ok1, ok2, ok3, ok4)
	}
	if !sameMeshes(m, was) {
		t.Error(name, "was written into")
	}
}

func TestMeshOkCounts(t *testing.T) {
	for _, c := range []struct {
		verts, tris int
		want        bool
	}{
		{0, 0, true}, {1, 0, true}, {2, 0, true}, {3, 0, true}, {3, 1, true}, {200, 0, true}, {200, 300, true}, {20, 300, true}, {199, 299, true},
		{201, 0, false}, {201, 1, false}, {201, 300, false}, {20, 301, false}, {200, 301, false}, {1000, 0, false}, {20, 1000, false},
	} {
		m := impl.Mesh{Verts: placesInRow(c.verts), Tris: fansOf(c.verts, c.tris)}
		if len(m.Tris) != c.tris {
			t.Fatal("no mesh of", c)
		}
		if impl.MeshOk(m) != c.want {
			t.Error(c)
		}
		if !c.want {
			checkNotMeshOk(t, c, m)
		}
	}
	if impl.MaxVerts != 200 || impl.MaxMesh != 300 {
		t.Error("limits", impl.MaxVerts, impl.MaxMesh)
	}
	for _, m := range []impl.Mesh{{}, {Verts: []impl.V3{}, Tris: []impl.Tri{}}} {
		if !impl.MeshOk(m) {
			t.Error("the empty mesh is one")
		}
	}
	for _, verts := range [][]impl.V3{nil, {}} {
		for _, one := range []impl.Tri{tri(0, 1, 2), tri(0, 0, 0), {}} {
			checkNotMeshOk(t, "triangles without a place", impl.Mesh{Verts: verts, Tris: []impl.Tri{one}})
		}
	}
	// The same triangle as often as one likes, and places that are the same.
	if !impl.MeshOk(meshBy([]int64{1, 1, 1, 1, 1, 1, 1, 1, 1}, tri(0, 1, 2), tri(0, 2, 1), tri(0, 1, 2))) {
		t.Error("all at one place")
	}
}

// All triangles of positions around 0 .. 3, of four places.
func TestMeshOkPositions(t *testing.T) {
	verts := placesInRow(4)
	list := []int64{-1 << 63, -2, -1, 0, 1, 2, 3, 4, 5, 1<<63 - 1}
	good := 0
	for _, a := range list {
		for _, b := range list {
			for _, c := range list {
				want := 0 <= a && a < b && a < c && b != c && b < 4 && c < 4
				one := impl.Mesh{Verts: verts, Tris: []impl.Tri{tri(a, b, c)}}
				last := impl.Mesh{Verts: verts, Tris: []impl.Tri{tri(0, 1, 2), tri(1, 3, 2), tri(a, b, c)}}
				if impl.MeshOk(one) != want || impl.MeshOk(last) != want {
					t.Error(one.Tris, "of four places:", !want)
				}
				if !want {
					checkNotMeshOk(t, "a position", last)
				} else {
					good++
				}
			}
		}
	}
	if good != 8 {
		t.Error(good, "triangles")
	}
}

func TestMeshOkPlaces(t *testing.T) {
	for _, bad := range broken3() {
		for k := range 4 {
			m := impl.Mesh{Verts: placesInRow(4), Tris: []impl.Tri{tri(0, 1, 2)}}
			m.Verts[k] = bad
			checkNotMeshOk(t, bad, m)
			m.Tris = nil
			checkNotMeshOk(t, bad, m)
		}
		checkNotMeshOk(t, bad, impl.Mesh{Verts: []impl.V3{bad}})
	}
	for _, f := range edgeFractions() {
		if !impl.MeshOk(impl.Mesh{Verts: []impl.V3{{X: f, Y: f, Z: f}}}) {
			t.Error(f, "is a Q")
		}
	}
}

// wantMesh tells the mesh of a solid by the document's words, in big numbers, and how many places and triangles it has where it
// would have too many.
func wantMesh(s impl.Solid) (m impl.Mesh, fine bool) {
	number := func(p impl.V3) int64 {
		if !slices.Contains(m.Verts, p) {
			m.Verts = append(m.Verts, p)
		}
		return int64(slices.Index(m.Verts, p))
	}
	for _, f := range s.Faces {
		strips, ok := wantStrips(f.Region)
		if !ok {
			return impl.Mesh{}, false
		}
		for _, strip := range strips {
			var c []point3
			for _, v := range strip {
				c = append(c, lifted(f.Plane, pointOf(v)))
			}
			for k := 1; k+1 < len(c); k++ {
				three := []point3{c[0], c[k], c[k+1]}
				if normalAt(c[0], c[k], c[k+1]).dot(normalOf(f.Plane)).Sign() < 0 {
					three[1], three[2] = three[2], three[1]
				}
				var at [3]int64
				for i, p := range three {
					v, ok := p.place()
					if !ok {
						return impl.Mesh{}, false
					}
					at[i] = number(v)
				}
				m.Tris = append(m.Tris, triAny(at[0], at[1], at[2]))
			}
		}
	}
	return m, len(m.Verts) <= 200 && len(m.Tris) <= 300
}

// checkMeshOf asks also that the mesh is the solid again, repaired, subdivided and packed too. It tells whether there is a mesh,
// and whether that can be subdivided.
func checkMeshOf(t *testing.T, name any, s impl.Solid) (told, finer bool) {
	t.Helper()
	want, fine := wantMesh(s)
	m, ok := impl.MeshOf(s)
	if !fine {
		if !isNoMesh(m, ok) {
			t.Fatal(name, "has the mesh", m, ok)
		}
		return false, false
	}
	if !ok || !sameMeshes(m, want) || !impl.MeshOk(m) {
		t.Fatal(name, "has the mesh", m, ok, "not", want)
	}
	isAgain := func(what string, m impl.Mesh) {
		t.Helper()
		if again, ok := impl.SolidOf(m); !ok || !sameSolids(again, s) {
			t.Fatal(name, what, "is", again, ok, "not", s)
		}
	}
	isAgain("as a mesh", m)
	repaired, ok := impl.Repair(m)
	if !ok || len(repaired.Verts) != len(m.Verts) || len(repaired.Tris) != len(m.Tris) {
		t.Fatal(name, "is repaired to", repaired, ok)
	}
	isAgain("repaired", repaired)
	packed, ok := impl.PackMesh(m)
	read, code := impl.ReadMesh(packed)
	if !ok || code != impl.MsOk || !sameMeshes(read, m) {
		t.Fatal(name, "is read back as", read, code)
	}
	four, ok := impl.Subdivide(m)
	if !ok {
		return true, false
	}
	isAgain("subdivided", four)
	if repaired, ok = impl.Repair(four); !ok {
		t.Fatal(name, "can't be repaired when it is subdivided")
	}
	isAgain("subdivided and repaired", repaired)
	return true, true
}

func TestMeshesOfSolidsByHand(t *testing.T) {
	cube := []int64{0, 0, 0, 0, 1, 1, 0, 1, 0, 0, 0, 1, 1, 0, 0, 1, 0, 1, 1, 1, 0, 1, 1, 1}
	for _, c := range []struct {
		name string
		of   tetras
		want impl.Mesh
	}{
		{"nothing", tetras{}, impl.Mesh{}},
		// The faces are X = 0, Y = 0, Z = 0, Z = 1, Y = 1, X = 1; the first, the third and the fifth are turned.
		{"a cube", bx(0, 0, 0, 1, 1, 1), meshBy(cube, tri(0, 1, 2), tri(0, 3, 1), tri(0, 4, 5), tri(0, 5, 3), tri(0, 6, 4), tri(0, 2, 6),
			tri(3, 5, 7), tri(1, 3, 7), tri(2, 7, 6), tri(1, 7, 2), tri(4, 6, 7), tri(4, 7, 5))},
		// Three strips of three corners; the slant is dropped along Z, and not turned.
		{"a corner", tt(0, 0, 0, 1, 0, 0, 0, 1, 0, 0, 0, 1), meshBy([]int64{0, 0, 0, 0, 0, 1, 0, 1, 0, 1, 0, 0}, tri(0, 1, 2), tri(0, 3, 1), tri(0, 2, 3), tri(1, 3, 2))},
		// The base and the front have two strips each, with the place (1, 0, 0) in common; the slants have one each.
		{"a tent", tetra(whole3(0, 0, 0), whole3(2, 0, 0), whole3(1, 2, 0), whole3(1, 0, 3)), meshBy([]int64{0, 0, 0, 1, 0, 3, 1, 2, 0, 1, 0, 0, 2, 0, 0},
			tri(0, 1, 2), tri(0, 3, 1), tri(1, 3, 4), tri(0, 2, 3), tri(2, 4, 3), tri(1, 4, 2))},
	} {
		s := checkSkin(t, c.name, c.of)
		m, ok := impl.MeshOf(s)
		if !ok || !sameMeshes(m, c.want) {
			t.Error(c.name, "has the mesh", m, ok, "not", c.want)
		}
		checkMeshOf(t, c.name, s)
	}
}

func TestMeshesOfSolids(t *testing.T) {
	t.Parallel()
	told, finer, turned, three := 0, 0, map[[2]bool]int{}, 0
	for _, c := range solidCases() {
		for _, o := range []tetras{c.of, c.of.moved(aslant), c.of.moved(func(p point3) point3 { return point3{p[2], p[0], p[1]} })} {
			s, ok := o.skin()
			if !ok {
				continue
			}
			fine, small := checkMeshOf(t, c.name, s)
			if fine {
				told++
			}
			if small {
				finer++
			}
			for _, f := range s.Faces {
				k := keptBy(f.Plane)
				turned[[2]bool{k[2] == 1, normalOf(f.Plane)[k[2]].Sign() < 0}]++
				strips, _ := wantStrips(f.Region)
				for _, strip := range strips {
					if len(strip) == 3 {
						three++
					}
				}
			}
		}
	}
	if told < 100 || finer < 60 || len(turned) != 4 || three < 100 {
		t.Error("too few of a kind", told, finer, turned, three)
	}
}

func TestMeshesOfBuiltSolids(t *testing.T) {
	t.Parallel()
	told, finer := 0, 0
	check := func(name string, s impl.Solid, ok bool) {
		if !ok || len(s.Faces) == 0 {
			return
		}
		fine, small := checkMeshOf(t, name, s)
		if fine {
			told++
		}
		if small {
			finer++
		}
	}
	for seed := range uint64(60) {
		s := &shapes{spots{dice(seed), int(seed % 2)}}
		var places []impl.V3
		for range 4 + seed%6 {
			places = append(places, s.place3())
		}
		hull, ok := impl.Hull3(places)
		check("a hull", hull, ok)
		r, _ := impl.MakeRegion(lps(s.loop()))
		prism, ok := impl.Prism(r, q(-1, 3), q(1, 2))
		check("a prism", prism, ok)
		loft, ok := impl.Loft(s.unlike(3), q(0, 1), s.unlike(4), q(5, 2))
		check("a loft", loft, ok)
		both, ok := impl.Join(loft, hull, 1+int64(seed%4))
		check("a join", both, ok)
	}
	for n := range 40 {
		d := dice(n)
		c := d.jolted(cubes(block(2, 1, 1)...)).some(func(int) bool { return d.next()%2 == 0 })
		s, ok := c.skin()
		check("tetrahedra", s, ok)
	}
	if told < 90 || finer < 40 {
		t.Error("too few of a kind", told, finer)
	}
}

func TestMeshesOfNoSolids(t *testing.T) {
	t.Parallel()
	refused := func(name any, s impl.Solid) {
		t.Helper()
		if m, ok := impl.MeshOf(s); !isNoMesh(m, ok) {
			t.Error(name, "has a mesh:", m, ok)
		}
	}
	for _, s := range brokenSolids() {
		refused("a broken number", s)
	}
	for name, c := range map[string]tetras{"a box": bx(0, 0, 0, 1, 2, 3), "a hollow": cubes(less(block(3, 3, 3), [3]int64{1, 1, 1})...), "a pyramid": pyramid(whole3(1, 1, 3))} {
		s, _ := c.skin()
		for change, o := range spoilt(s) {
			refused(name+" "+change, o)
		}
	}
	for _, p := range brokenPlanes() {
		refused(p, impl.Solid{Faces: []impl.Face{{Plane: p, Region: region(box(0, 0, 1, 1))}}})
	}
	if m, ok := impl.MeshOf(impl.Solid{}); !ok || len(m.Verts)+len(m.Tris) > 0 {
		t.Error("the empty solid has the empty mesh", m, ok)
	}
}

// A place of a strip lies on an edge, above or below another place: it may be none, though all corners are.
func TestMeshesWithPlacesThatAreNone(t *testing.T) {
	// Over the corner at X = 1/7 the edge has the Y 1 / (7 n (n - 1)).
	flat := func(n int64) impl.Solid {
		s, ok := impl.Prism(made(t, []impl.V{at(0, 0), {X: q(1, 7), Y: q(-1, 1)}, at(n, -1), {X: q(n, 1), Y: q(1, n-1)}}), q(0, 1), q(1, 1))
		if !ok {
			t.Fatal("no prism for", n)
		}
		return s
	}
	for n, want := range map[int64]bool{1000: true, 377964473: true, 377964474: false, 999999999: false} {
		if told, _ := checkMeshOf(t, n, flat(n)); told != want {
			t.Error("flat", n, "has a mesh:", told)
		}
	}
	// Here the place of a strip is the V (1/7, 0), and its Z is 1 / (7 n).
	tall := func(n int64) impl.Solid {
		edge := []point3{{new(big.Rat), new(big.Rat), new(big.Rat)}, {big.NewRat(1, 1), new(big.Rat), big.NewRat(1, n)}}
		s, ok := tetra(edge[0], edge[1], point3{big.NewRat(1, 7), big.NewRat(1, 1), new(big.Rat)}, whole3(1, 0, -1)).skin()
		if !ok || !impl.SolidOk(s) {
			t.Fatal("no tetrahedron for", n)
		}
		return s
	}
	for n, want := range map[int64]bool{1000: true, top / 7: true, top/7 + 1: false, top / 2: false, top: false} {
		s := tall(n)
		for _, f := range s.Faces {
			if _, ok := impl.Strips(f.Region); !ok {
				t.Error("tall", n, "has strips")
			}
		}
		if told, _ := checkMeshOf(t, n, s); told != want {
			t.Error("tall", n, "has a mesh:", told)
		}
	}
}
