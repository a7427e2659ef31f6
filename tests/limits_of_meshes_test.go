package tests

import (
	"math/big"
	"testing"

	"loop.example/g00022/impl"
)

// zigzags are tetrahedra on the plane Z = 0, by turns below and above it, all of them with one top there: each three places of
// a row that follow one another are the base of one, so that those that are next to one another touch along a long edge. Both
// faces on the plane are cut up at the same places there, and so there are many triangles for few places.
func zigzags(x int64, rows []int, xy ...int64) tetras {
	var c tetras
	at := func(k int) point3 { return whole3(xy[2*k], xy[2*k+1], 0) }
	first, side := 0, int64(-1)
	for _, n := range rows {
		for k := first; k < first+n; k++ {
			c = c.with(tetra(at(k), at(k+1), at(k+2), point3{big.NewRat(x, 1), big.NewRat(1, 2), big.NewRat(50*side, 1)}))
			side = -side
		}
		first += n + 2
	}
	return c
}

func TestLimitsOfMeshesOfSolids(t *testing.T) {
	t.Parallel()
	for _, c := range []struct {
		of          tetras
		verts, tris int
		want        bool
	}{
		{zigzags(12, []int{4, 4, 4}, 13, -529, 11, -500, 2, -508, 16, -57, 4, -307, 10, 15, 8, -20, 14, 170, 1, 195, 18, 443, 3, 259, 13, 389, 10, 372, 15, 688, 0, 290, 19, 888, 5, 1126, 8, 1216), 184, 300, true},
		{zigzags(8, []int{4, 4, 4}, 6, -359, 17, -214, 2, -139, 5, -97, 14, 216, 16, -130, 7, 114, 15, 421, 3, -36, 19, 770, 4, 46, 7, 337, 11, 502, 13, 582, 0, 142, 18, 758, 10, 535, 6, 768), 200, 298, true},
		{zigzags(1, []int{4, 4, 4}, 6, -311, 16, -343, 3, -277, 17, -224, 9, -11, 13, -95, 7, -49, 12, 299, 0, -220, 18, 654, 5, 74, 11, 378, 11, 455, 15, 608, 2, 177, 19, 987, 10, 794, 7, 890), 200, 300, true},
		{zigzags(10, []int{4, 4, 4}, 13, -85, 8, -33, 0, 2, 15, -4, 6, 29, 0, 58, 9, 22, 14, 56, 2, 115, 18, 40, 7, 118, 4, 143, 5, 142, 12, 135, 1, 160, 16, 174, 3, 200, 13, 435), 201, 298, false},
		{zigzags(7, []int{4, 4, 4}, 15, -181, 11, -102, 1, -104, 19, -95, 7, -8, 9, -11, 5, 62, 3, 76, 18, 121, 0, 97, 10, 157, 13, 254, 6, 204, 12, 324, 17, 361, 2, 356, 14, 387, 8, 414), 201, 300, false},
		{zigzags(17, []int{2, 2, 4, 4}, 17, -246, 0, -225, 17, -200, 13, -184, 8, -96, 6, -115, 18, -80, 15, -95, 15, -58, 5, -61, 19, 44, 1, 48, 11, 55, 20, 110, 7, 183, 16, 137, 3, 207, 21, 204, 10, 300, 8, 375), 197, 301, false},
		{zigzags(2, []int{4, 4, 2, 2}, 2, -286, 12, -236, 2, -198, 16, -37, 6, -13, 4, -6, 7, 67, 11, 68, 1, 71, 21, 87, 9, 138, 0, 183, 8, 339, 14, 356, 5, 267, 8, 238, 4, 239, 13, 596, 3, 227, 7, 456), 200, 301, false},
	} {
		s, ok := c.of.skin()
		want, fine := wantMesh(s)
		if !ok || !impl.SolidOk(s) || len(want.Verts) != c.verts || len(want.Tris) != c.tris || fine != c.want {
			t.Fatal("a solid with", len(want.Verts), len(want.Tris), ok)
		}
		m, ok := impl.MeshOf(s)
		if ok != c.want || ok && !sameMeshes(m, want) || !ok && !isNoMesh(m, ok) {
			t.Error(c.verts, "places and", c.tris, "triangles:", m, ok)
		}
		if !ok {
			continue
		}
		if again, ok := impl.SolidOf(m); !ok || !sameSolids(again, s) {
			t.Error(c.verts, "places and", c.tris, "triangles are", again, ok)
		}
		if four, ok := impl.Subdivide(m); !isNoMesh(four, ok) {
			t.Error(c.verts, "places and", c.tris, "triangles are subdivided", four)
		}
	}
	// Many places of many strips: a plate with teeth on both sides.
	s, ok := impl.Prism(teeth(12), q(0, 1), q(1, 1))
	if !ok {
		t.Fatal("no prism")
	}
	checkMeshOf(t, "a plate with teeth", s)
}
