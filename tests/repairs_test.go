package tests

import (
	"slices"
	"testing"

	"loop.example/g00022/impl"
)

// Promise 16: meshes repaired and subdivided.

// wantRepair goes by the document's words, one after the other, with the corners of triangles as places.
func wantRepair(m impl.Mesh) impl.Mesh {
	sides := slices.DeleteFunc(sidesOfMesh(m), func(s side3) bool {
		return s[0].cmp(s[1]) == 0 || s[1].cmp(s[2]) == 0 || s[2].cmp(s[0]) == 0 || normalAt(s[0], s[1], s[2]).cmp(whole3(0, 0, 0)) == 0
	})
	isRound := func(s, o side3) bool {
		for k := range 3 {
			if s[0].cmp(o[k]) == 0 && s[1].cmp(o[(k+1)%3]) == 0 && s[2].cmp(o[(k+2)%3]) == 0 {
				return true
			}
		}
		return false
	}
	for i := 0; i < len(sides); {
		k := slices.IndexFunc(sides, func(o side3) bool { return isRound(sides[i], side3{o[0], o[2], o[1]}) })
		if k < 0 {
			i++
			continue
		}
		sides = slices.Delete(slices.Delete(sides, max(i, k), max(i, k)+1), min(i, k), min(i, k)+1)
		i = 0
	}
	var places []point3
	for _, s := range sides {
		places = append(places, s[:]...)
	}
	slices.SortFunc(places, comparePoint3)
	places = slices.CompactFunc(places, func(a, b point3) bool { return a.cmp(b) == 0 })
	var made impl.Mesh
	for _, p := range places {
		v, _ := p.place()
		made.Verts = append(made.Verts, v)
	}
	number := func(p point3) int64 {
		return int64(slices.IndexFunc(places, func(o point3) bool { return o.cmp(p) == 0 }))
	}
	for _, s := range sides {
		made.Tris = append(made.Tris, triAny(number(s[0]), number(s[1]), number(s[2])))
	}
	slices.SortFunc(made.Tris, compareTris)
	return made
}

// checkRepair asks also that what is repaired stays as it is.
func checkRepair(t *testing.T, name any, m impl.Mesh) impl.Mesh {
	t.Helper()
	want := wantRepair(m)
	r, ok := impl.Repair(m)
	if !ok || !sameMeshes(r, want) || !impl.MeshOk(r) {
		t.Fatal(name, m, "is repaired to", r, ok, "not", want)
	}
	if again, ok := impl.Repair(r); !ok || !sameMeshes(again, r) {
		t.Fatal(name, r, "is repaired again, to", again, ok)
	}
	return r
}

func TestRepairsByHand(t *testing.T) {
	corner := []int64{0, 0, 0, 1, 0, 0, 0, 1, 0, 0, 0, 1}
	turned := []int64{0, 0, 1, 0, 1, 0, 1, 0, 0, 0, 0, 0}
	for _, c := range []struct {
		name    string
		m, want impl.Mesh
	}{
		{"nothing", impl.Mesh{}, impl.Mesh{}},
		{"places alone", meshBy(corner), impl.Mesh{}},
		{"as it should be", meshBy([]int64{0, 0, 0, 0, 0, 1, 0, 1, 0, 1, 0, 0}, tri(0, 1, 2), tri(0, 2, 3), tri(0, 3, 1), tri(1, 3, 2)), meshBy([]int64{0, 0, 0, 0, 0, 1, 0, 1, 0, 1, 0, 0}, tri(0, 1, 2), tri(0, 2, 3), tri(0, 3, 1), tri(1, 3, 2))},
		// (0,0,0) (0,0,1) (0,1,0) (1,0,0): 0 stays, 1 is 3, 2 stays, 3 is 1.
		{"places in another order", meshBy(corner, tri(0, 2, 1), tri(0, 1, 3), tri(0, 3, 2), tri(1, 2, 3)), meshBy([]int64{0, 0, 0, 0, 0, 1, 0, 1, 0, 1, 0, 0}, tri(0, 1, 2), tri(0, 2, 3), tri(0, 3, 1), tri(1, 3, 2))},
		{"triangles in another order", meshBy(turned, tri(1, 3, 2), tri(0, 2, 3), tri(0, 1, 2), tri(0, 3, 1)), meshBy([]int64{0, 0, 0, 0, 0, 1, 0, 1, 0, 1, 0, 0}, tri(0, 1, 3), tri(0, 2, 1), tri(0, 3, 2), tri(1, 2, 3))},
		{"one triangle", meshBy(corner, tri(1, 2, 3)), meshBy([]int64{0, 0, 1, 0, 1, 0, 1, 0, 0}, tri(0, 2, 1))},
		{"one the other way", meshBy(corner, tri(1, 3, 2)), meshBy([]int64{0, 0, 1, 0, 1, 0, 1, 0, 0}, tri(0, 1, 2))},
		{"the same twice", meshBy(corner, tri(1, 3, 2), tri(1, 3, 2)), meshBy([]int64{0, 0, 1, 0, 1, 0, 1, 0, 0}, tri(0, 1, 2), tri(0, 1, 2))},
		{"three times", meshBy(corner, tri(1, 3, 2), tri(1, 3, 2), tri(1, 3, 2)), meshBy([]int64{0, 0, 1, 0, 1, 0, 1, 0, 0}, tri(0, 1, 2), tri(0, 1, 2), tri(0, 1, 2))},
		{"both ways", meshBy(corner, tri(1, 3, 2), tri(1, 2, 3)), impl.Mesh{}},
		{"two and one turned", meshBy(corner, tri(1, 3, 2), tri(1, 2, 3), tri(1, 3, 2)), meshBy([]int64{0, 0, 1, 0, 1, 0, 1, 0, 0}, tri(0, 1, 2))},
		{"one and two turned", meshBy(corner, tri(1, 2, 3), tri(1, 3, 2), tri(1, 2, 3)), meshBy([]int64{0, 0, 1, 0, 1, 0, 1, 0, 0}, tri(0, 2, 1))},
		{"three and two turned", meshBy(corner, tri(1, 2, 3), tri(1, 3, 2), tri(1, 2, 3), tri(1, 2, 3), tri(1, 3, 2)), meshBy([]int64{0, 0, 1, 0, 1, 0, 1, 0, 0}, tri(0, 2, 1))},
		{"two and two turned, and another one", meshBy(corner, tri(1, 2, 3), tri(1, 3, 2), tri(0, 1, 2), tri(1, 2, 3), tri(1, 3, 2)), meshBy([]int64{0, 0, 0, 0, 1, 0, 1, 0, 0}, tri(0, 2, 1))},
		{"on one line", meshBy([]int64{0, 0, 0, 1, 1, 1, 3, 3, 3, 0, 1, 0}, tri(0, 1, 2), tri(0, 1, 3)), meshBy([]int64{0, 0, 0, 0, 1, 0, 1, 1, 1}, tri(0, 2, 1))},
		{"on lines along the axes", meshBy([]int64{0, 0, 0, 1, 0, 0, 3, 0, 0, 0, 1, 0, 0, 5, 0, 0, 0, 2, 0, 0, 9}, tri(0, 1, 2), tri(0, 3, 4), tri(0, 6, 5), tri(0, 4, 3)), impl.Mesh{}},
		{"two places the same", meshBy([]int64{0, 0, 0, 1, 0, 0, 0, 0, 0, 0, 1, 0}, tri(0, 1, 2), tri(0, 1, 3), tri(1, 3, 2)), meshBy([]int64{0, 0, 0, 0, 1, 0, 1, 0, 0}, tri(0, 2, 1), tri(0, 2, 1))},
		{"two places the same, both ways", meshBy([]int64{0, 0, 0, 1, 0, 0, 0, 0, 0, 0, 1, 0}, tri(0, 1, 3), tri(1, 2, 3)), impl.Mesh{}},
		{"each two corners the same", meshBy([]int64{5, 5, 5, 5, 5, 5, 0, 1, 2, 3, 3, 3}, tri(0, 1, 2), tri(0, 2, 1), tri(1, 3, 2), tri(0, 1, 3)), meshBy([]int64{0, 1, 2, 3, 3, 3, 5, 5, 5}, tri(0, 2, 1))},
		{"all three the same", meshBy([]int64{5, 5, 5, 5, 5, 5, 5, 5, 5}, tri(0, 1, 2)), impl.Mesh{}},
		{"places that none needs", meshBy([]int64{9, 9, 9, 0, 0, 0, -9, 9, 9, 0, 1, 0, 0, 0, 1, 0, 0, 3}, tri(1, 3, 5)), meshBy([]int64{0, 0, 0, 0, 0, 3, 0, 1, 0}, tri(0, 2, 1))},
		{"places that none needs any more", meshBy([]int64{0, 0, 0, 0, 1, 0, 0, 0, 1, -1, 0, 0}, tri(0, 1, 3), tri(0, 2, 1), tri(0, 3, 1)), meshBy([]int64{0, 0, 0, 0, 0, 1, 0, 1, 0}, tri(0, 1, 2))},
	} {
		if r := checkRepair(t, c.name, c.m); !sameMeshes(r, c.want) {
			t.Error(c.name, "is repaired to", r, "not", c.want)
		}
	}
}

// anyMesh has few places, so that many are the same, and many triangles have corners in common or on one line.
func (d *dice) anyMesh(places, tris int, size int64) impl.Mesh {
	var m impl.Mesh
	for range places {
		v := v3(d.upTo(size), d.upTo(size), d.upTo(size))
		if d.next()%4 == 0 {
			v.Y = q(2*d.upTo(size)+1, 2)
		}
		m.Verts = append(m.Verts, v)
	}
	for len(m.Tris) < tris {
		a, b, c := int64(d.next()%uint64(places)), int64(d.next()%uint64(places)), int64(d.next()%uint64(places))
		if a != b && b != c && c != a {
			m.Tris = append(m.Tris, triAny(a, b, c))
		}
	}
	return m
}

func TestRepairsMany(t *testing.T) {
	t.Parallel()
	d := dice(77)
	gone, unlike := 0, 0
	for i := range 400 {
		m := d.anyMesh(3+i%9, i%40, 1+int64(i%3))
		r := checkRepair(t, i, m)
		gone += len(m.Tris) - len(r.Tris)
		unlike += len(r.Tris)
		// The order of places and of triangles does not matter, nor do places more or less.
		for _, o := range []impl.Mesh{d.renumbered(m), d.renumbered(m, m.Verts[0], v3(9, 9, 9)), d.renumbered(apartIfFew(m))} {
			if again, ok := impl.Repair(o); !ok || !sameMeshes(again, r) {
				t.Fatal(m, "in another order", o, "is repaired to", again, "not", r)
			}
		}
	}
	if gone < 1000 || unlike < 1000 {
		t.Error("too few of a kind", gone, unlike)
	}
	big := d.anyMesh(200, 300, 2)
	checkRepair(t, "as many as may be", big)
	for _, f := range edgeFractions() {
		m := impl.Mesh{Verts: []impl.V3{{X: f, Y: q(0, 1), Z: f}, {X: q(0, 1), Y: f, Z: q(1, 1)}, {X: f, Y: f, Z: q(1, top)}, v3(0, 0, 0)}, Tris: []impl.Tri{tri(0, 1, 2), tri(1, 3, 2), tri(0, 3, 2), tri(0, 2, 3)}}
		checkRepair(t, f, m)
	}
}

func apartIfFew(m impl.Mesh) impl.Mesh {
	if 3*len(m.Tris) > impl.MaxVerts {
		return m
	}
	return apart(m)
}

// What is repaired is the same solid, if it is one.
func TestRepairedSolids(t *testing.T) {
	d := dice(8)
	for _, i := range []int{1, 2, 4, 7, 10, 12, 20, 21, 33} {
		c := solidCases()[i]
		s, _ := c.of.skin()
		m := apartIfFew(meshOfSides(c.of.border()))
		a, b := m.Tris[0], m.Tris[len(m.Tris)-1]
		// With what goes: a triangle more both ways, twice.
		m.Tris = slices.Concat(m.Tris, []impl.Tri{a, tri(a.A, a.C, a.B), b, tri(b.A, b.C, b.B), b, tri(b.A, b.C, b.B)})
		r := checkRepair(t, c.name, d.renumbered(m))
		isSolid(t, c.name, r, s)
		if again, ok := impl.SolidOf(m); ok {
			t.Error(c.name, "both ways is a solid", again)
		}
	}
}

func TestSubdivisionsByHand(t *testing.T) {
	half := func(n ...int64) []impl.V3 {
		var list []impl.V3
		for c := range slices.Chunk(n, 3) {
			v, _ := fraction3(c[0], c[1], c[2], 2).place()
			list = append(list, v)
		}
		return list
	}
	square := []int64{0, 0, 0, 2, 0, 0, 0, 2, 0, 2, 2, 2}
	verts := half(0, 0, 0, 4, 0, 0, 0, 4, 0, 4, 4, 4)
	for _, c := range []struct {
		name    string
		m, want impl.Mesh
	}{
		{"nothing", impl.Mesh{}, impl.Mesh{}},
		{"places alone", meshBy(square), meshBy(square)},
		{"one", meshBy(square, tri(0, 1, 2)), impl.Mesh{Verts: slices.Concat(verts, half(2, 0, 0, 2, 2, 0, 0, 2, 0)),
			Tris: []impl.Tri{tri(0, 4, 6), tri(1, 5, 4), tri(2, 6, 5), tri(4, 5, 6)}}},
		{"one the other way", meshBy(square, tri(0, 2, 1)), impl.Mesh{Verts: slices.Concat(verts, half(0, 2, 0, 2, 2, 0, 2, 0, 0)),
			Tris: []impl.Tri{tri(0, 4, 6), tri(2, 5, 4), tri(1, 6, 5), tri(4, 5, 6)}}},
		// The second one begins with the middle of 1 and 3; that of 3 and 2 follows, that of 2 and 1 is there.
		{"two, the other way along their edge", meshBy(square, tri(0, 1, 2), tri(1, 3, 2)), impl.Mesh{Verts: slices.Concat(verts, half(2, 0, 0, 2, 2, 0, 0, 2, 0, 4, 2, 2, 2, 4, 2)),
			Tris: []impl.Tri{tri(0, 4, 6), tri(1, 5, 4), tri(2, 6, 5), tri(4, 5, 6), tri(1, 7, 5), tri(3, 8, 7), tri(2, 5, 8), tri(5, 7, 8)}}},
		{"two, the same way along their edge", meshBy(square, tri(0, 1, 2), tri(1, 2, 3)), impl.Mesh{Verts: slices.Concat(verts, half(2, 0, 0, 2, 2, 0, 0, 2, 0, 2, 4, 2, 4, 2, 2)),
			Tris: []impl.Tri{tri(0, 4, 6), tri(1, 5, 4), tri(2, 6, 5), tri(4, 5, 6), tri(1, 5, 8), tri(2, 7, 5), tri(3, 8, 7), tri(5, 7, 8)}}},
		{"the same twice", meshBy(square, tri(0, 1, 2), tri(0, 1, 2)), impl.Mesh{Verts: slices.Concat(verts, half(2, 0, 0, 2, 2, 0, 0, 2, 0)),
			Tris: []impl.Tri{tri(0, 4, 6), tri(1, 5, 4), tri(2, 6, 5), tri(4, 5, 6), tri(0, 4, 6), tri(1, 5, 4), tri(2, 6, 5), tri(4, 5, 6)}}},
		{"both ways", meshBy(square, tri(0, 1, 2), tri(0, 2, 1)), impl.Mesh{Verts: slices.Concat(verts, half(2, 0, 0, 2, 2, 0, 0, 2, 0)),
			Tris: []impl.Tri{tri(0, 4, 6), tri(1, 5, 4), tri(2, 6, 5), tri(4, 5, 6), tri(0, 6, 4), tri(2, 5, 6), tri(1, 4, 5), tri(4, 6, 5)}}},
		// All three have the edge of 0 and 1.
		{"three at one edge", meshBy([]int64{0, 0, 0, 2, 0, 0, 0, 2, 0, 0, 0, 2, 0, -2, 0}, tri(0, 1, 2), tri(0, 3, 1), tri(0, 1, 4)), impl.Mesh{
			Verts: slices.Concat(half(0, 0, 0, 4, 0, 0, 0, 4, 0, 0, 0, 4, 0, -4, 0), half(2, 0, 0, 2, 2, 0, 0, 2, 0, 0, 0, 2, 2, 0, 2, 2, -2, 0, 0, -2, 0)),
			Tris: []impl.Tri{tri(0, 5, 7), tri(1, 6, 5), tri(2, 7, 6), tri(5, 6, 7), tri(0, 8, 5), tri(3, 9, 8), tri(1, 5, 9), tri(5, 8, 9),
				tri(0, 5, 11), tri(1, 10, 5), tri(4, 11, 10), tri(5, 10, 11)}}},
		// The edge of 1 and 2 and that of 3 and 4 are at the same places, but not of the same positions.
		{"places that are the same", meshBy([]int64{0, 0, 0, 1, 0, 0, 0, 1, 0, 1, 0, 0, 0, 1, 0, 1, 1, 0}, tri(0, 1, 2), tri(3, 5, 4)), impl.Mesh{
			Verts: slices.Concat(half(0, 0, 0, 2, 0, 0, 0, 2, 0, 2, 0, 0, 0, 2, 0, 2, 2, 0), half(1, 0, 0, 1, 1, 0, 0, 1, 0, 2, 1, 0, 1, 2, 0, 1, 1, 0)),
			Tris:  []impl.Tri{tri(0, 6, 8), tri(1, 7, 6), tri(2, 8, 7), tri(6, 7, 8), tri(3, 9, 11), tri(5, 10, 9), tri(4, 11, 10), tri(9, 10, 11)}}},
		{"all at one place", meshBy([]int64{1, 1, 1, 1, 1, 1, 1, 1, 1}, tri(0, 1, 2)), impl.Mesh{Verts: half(2, 2, 2, 2, 2, 2, 2, 2, 2, 2, 2, 2, 2, 2, 2, 2, 2, 2),
			Tris: []impl.Tri{tri(0, 3, 5), tri(1, 4, 3), tri(2, 5, 4), tri(3, 4, 5)}}},
	} {
		got, ok := impl.Subdivide(c.m)
		if !ok || !sameMeshes(got, c.want) {
			t.Error(c.name, "is subdivided to", got, ok, "not", c.want)
		}
		checkSubdivide(t, c.name, c.m)
	}
}

// wantSubdivided goes by the document's words, in big numbers.
func wantSubdivided(m impl.Mesh) (impl.Mesh, bool) {
	var pairs [][2]int64
	number := func(a, b int64) int64 {
		pair := [2]int64{min(a, b), max(a, b)}
		if !slices.Contains(pairs, pair) {
			pairs = append(pairs, pair)
		}
		return int64(len(m.Verts) + slices.Index(pairs, pair))
	}
	var tris []impl.Tri
	for _, f := range m.Tris {
		ab := number(f.A, f.B)
		bc := number(f.B, f.C)
		ca := number(f.C, f.A)
		tris = append(tris, triAny(f.A, ab, ca), triAny(ab, f.B, bc), triAny(ca, bc, f.C), triAny(ab, bc, ca))
	}
	verts := slices.Clone(m.Verts)
	for _, p := range pairs {
		v, ok := middleOf(point3Of(m.Verts[p[0]]), point3Of(m.Verts[p[1]])).place()
		if !ok {
			return impl.Mesh{}, false
		}
		verts = append(verts, v)
	}
	if len(verts) > 200 || len(tris) > 300 {
		return impl.Mesh{}, false
	}
	return impl.Mesh{Verts: verts, Tris: tris}, true
}

func checkSubdivide(t *testing.T, name any, m impl.Mesh) bool {
	t.Helper()
	want, fine := wantSubdivided(m)
	got, ok := impl.Subdivide(m)
	if ok != fine || !sameMeshes(got, want) || ok && !impl.MeshOk(got) {
		t.Fatal(name, m, "is subdivided to", got, ok, "not", want, fine)
	}
	return ok
}

func TestSubdivisionsMany(t *testing.T) {
	t.Parallel()
	d := dice(4)
	for i := range 300 {
		checkSubdivide(t, i, d.anyMesh(3+i%30, i%80, 1+int64(i%5)))
	}
	// Twice, and what that leaves of a solid.
	s, _ := impl.Hull3([]impl.V3{v3(0, 0, 0), v3(3, 1, 0), v3(1, 2, 0), v3(1, 1, 2)})
	m := eared(t, s)
	for n := range 4 {
		if len(m.Tris) != 4<<(2*n) {
			t.Fatal(n, "times:", len(m.Tris))
		}
		isSolid(t, n, m, s)
		if n < 3 {
			m, _ = impl.Subdivide(m)
		}
	}
	if four, ok := impl.Subdivide(m); !isNoMesh(four, ok) {
		t.Error("four times", four)
	}
}

func TestLimitsOfSubdivisions(t *testing.T) {
	for _, c := range []struct {
		name        string
		m           impl.Mesh
		verts, tris int
		want        bool
	}{
		{"75 triangles", impl.Mesh{Verts: placesInRow(9), Tris: fansOf(9, 75)}, 9 + 36, 300, true},
		{"76 triangles", impl.Mesh{Verts: placesInRow(9), Tris: fansOf(9, 76)}, 9 + 36, 304, false},
		{"84 triangles", impl.Mesh{Verts: placesInRow(9), Tris: fansOf(9, 84)}, 9 + 36, 336, false},
		{"197 places", impl.Mesh{Verts: placesInRow(197), Tris: []impl.Tri{tri(0, 1, 2)}}, 200, 4, true},
		{"198 places", impl.Mesh{Verts: placesInRow(198), Tris: []impl.Tri{tri(0, 1, 2)}}, 201, 4, false},
		{"200 places alone", impl.Mesh{Verts: placesInRow(200)}, 200, 0, true},
		{"195 places, two triangles with an edge", impl.Mesh{Verts: placesInRow(195), Tris: []impl.Tri{tri(0, 1, 2), tri(1, 2, 3)}}, 200, 8, true},
		{"195 places, two triangles", impl.Mesh{Verts: placesInRow(195), Tris: []impl.Tri{tri(0, 1, 2), tri(2, 3, 4)}}, 201, 8, false},
		{"200 places, one triangle", impl.Mesh{Verts: placesInRow(200), Tris: []impl.Tri{tri(0, 1, 2)}}, 203, 4, false},
		{"75 triangles and 200 places", impl.Mesh{Verts: placesInRow(164), Tris: fansOf(9, 75)}, 200, 300, true},
		{"75 triangles and 201 places", impl.Mesh{Verts: placesInRow(165), Tris: fansOf(9, 75)}, 201, 300, false},
	} {
		if ok := checkSubdivide(t, c.name, c.m); ok != c.want || !impl.MeshOk(c.m) {
			t.Error(c.name, "is subdivided:", ok)
		}
		if got, ok := impl.Subdivide(c.m); ok && (len(got.Verts) != c.verts || len(got.Tris) != c.tris) {
			t.Error(c.name, "has", len(got.Verts), len(got.Tris))
		}
	}
}

func TestMiddlesThatAreNone(t *testing.T) {
	in := []func(f impl.Q) impl.V3{
		func(f impl.Q) impl.V3 { return impl.V3{X: f, Y: q(1, 1), Z: q(2, 1)} },
		func(f impl.Q) impl.V3 { return impl.V3{X: q(1, 1), Y: f, Z: q(2, 1)} },
		func(f impl.Q) impl.V3 { return impl.V3{X: q(1, 1), Y: q(2, 1), Z: f} },
	}
	fine, refused := 0, 0
	for _, f := range edgeFractions() {
		for _, g := range edgeFractions() {
			for _, place := range in {
				m := impl.Mesh{Verts: []impl.V3{place(f), place(g), v3(1, 2, 3)}, Tris: []impl.Tri{tri(0, 1, 2)}}
				// The middle of two places of which no triangle has both is not asked for.
				if !checkSubdivide(t, "alone", impl.Mesh{Verts: m.Verts[:2]}) {
					t.Error("places alone are refused")
				}
				if checkSubdivide(t, f, m) {
					fine++
				} else {
					refused++
				}
			}
		}
	}
	if fine < 200 || refused < 200 {
		t.Error("too few of a kind", fine, refused)
	}
	// Sums that are no Qs, with middles that are.
	for _, v := range []impl.V3{v3(top, top, top), v3(-top, top-2, -top+4)} {
		m := impl.Mesh{Verts: []impl.V3{v3(top, top, -top), v, v3(0, 0, 0)}, Tris: []impl.Tri{tri(0, 1, 2)}}
		if !checkSubdivide(t, v, m) {
			t.Error(v, "is refused")
		}
	}
}
