package tests

import (
	"math/big"
	"slices"
	"testing"

	"loop.example/g00022/impl"
)

// Promise 12: boxes, prisms, hulls and lofts.

func isNoSolid(s impl.Solid, ok bool) bool { return !ok && len(s.Faces) == 0 }

// betweenPlaces is a box told by tetrahedra.
func betweenPlaces(lo, hi impl.V3) tetras {
	from, way := point3Of(lo), point3Of(hi).minus(point3Of(lo))
	return cubes([3]int64{}).moved(func(p point3) point3 {
		return from.plus(point3{timesRat(p[0], way[0]), timesRat(p[1], way[1]), timesRat(p[2], way[2])})
	})
}

func cornersOfBox(lo, hi impl.V3) []impl.V3 {
	var list []impl.V3
	for _, x := range []impl.Q{lo.X, hi.X} {
		for _, y := range []impl.Q{lo.Y, hi.Y} {
			for _, z := range []impl.Q{lo.Z, hi.Z} {
				list = append(list, impl.V3{X: x, Y: y, Z: z})
			}
		}
	}
	return list
}

// checkBox: a box, a prism of its rectangle and a hull of its corners are one solid.
func checkBox(t *testing.T, lo, hi impl.V3) {
	t.Helper()
	s, ok := impl.Box(lo, hi)
	want, _ := betweenPlaces(lo, hi).skin()
	if !ok || !sameSolids(s, want) || !impl.SolidOk(s) || len(s.Faces) != 6 {
		t.Fatal("box", lo, hi, s, ok, "not", want)
	}
	rectangle := []impl.V{{X: lo.X, Y: lo.Y}, {X: hi.X, Y: lo.Y}, {X: hi.X, Y: hi.Y}, {X: lo.X, Y: hi.Y}}
	if o, ok := impl.Prism(region(rectangle), lo.Z, hi.Z); !ok || !sameSolids(o, s) {
		t.Fatal("prism", lo, hi, o, ok, "not", s)
	}
	if o, ok := impl.Hull3(cornersOfBox(lo, hi)); !ok || !sameSolids(o, s) {
		t.Fatal("hull", lo, hi, o, ok, "not", s)
	}
	if o, ok := impl.Loft(rectangle, lo.Z, rectangle, hi.Z); !ok || !sameSolids(o, s) {
		t.Fatal("loft", lo, hi, o, ok, "not", s)
	}
	if a, b, ok := impl.Bounds(s); !ok || a != lo || b != hi {
		t.Fatal("bounds", a, b, ok, "not", lo, hi)
	}
}

func TestBoxes(t *testing.T) {
	checkBox(t, v3(0, 0, 0), v3(1, 1, 1))
	checkBox(t, v3(-1, 2, -3), v3(4, 5, 6))
	checkBox(t, v3(-top, -top, -top), v3(top, top, top))
	checkBox(t, impl.V3{X: q(1, top), Y: q(-1, top), Z: q(top-1, top)}, impl.V3{X: q(1, top-1), Y: q(0, 1), Z: q(1, 1)})
	good := 0
	for kind := range spotKinds {
		s := &spots{dice(40 + kind), kind}
		for range 60 {
			lo, hi := s.place3(), s.place3()
			below := rat(lo.X).Cmp(rat(hi.X)) < 0 && rat(lo.Y).Cmp(rat(hi.Y)) < 0 && rat(lo.Z).Cmp(rat(hi.Z)) < 0
			if below {
				checkBox(t, lo, hi)
				good++
			} else if o, ok := impl.Box(lo, hi); !isNoSolid(o, ok) {
				t.Fatal("box", lo, hi, o)
			}
		}
	}
	if good < 15 {
		t.Error("too few boxes:", good)
	}
}

func TestBoxesRefused(t *testing.T) {
	lo, hi := v3(0, 0, 0), v3(2, 3, 4)
	for name, c := range map[string][2]impl.V3{
		"alike": {lo, lo}, "turned": {hi, lo}, "flat in X": {lo, v3(0, 3, 4)}, "flat in Y": {lo, v3(2, 0, 4)}, "flat in Z": {lo, v3(2, 3, 0)},
		"turned in X": {lo, v3(-1, 3, 4)}, "turned in Y": {lo, v3(2, -1, 4)}, "turned in Z": {lo, v3(2, 3, -1)},
	} {
		if s, ok := impl.Box(c[0], c[1]); !isNoSolid(s, ok) {
			t.Error(name, s)
		}
	}
	for _, v := range broken3() {
		for _, c := range [][2]impl.V3{{v, v3(9, 9, 9)}, {v3(-9, -9, -9), v}, {v, v}} {
			if s, ok := impl.Box(c[0], c[1]); !isNoSolid(s, ok) {
				t.Error("a box", c, s)
			}
		}
	}
}

// wantPrism puts a side of two triangles on each edge.
func wantPrism(r impl.Region, lo, hi impl.Q) (impl.Solid, bool) {
	var sides []side3
	up := func(p point, z impl.Q) point3 { return point3{p.x, p.y, rat(z)} }
	for _, e := range edgesOf(pointLoops(r.Loops)) {
		a, b, c, d := up(e.a, lo), up(e.b, lo), up(e.b, hi), up(e.a, hi)
		sides = append(sides, side3{a, b, c}, side3{a, c, d})
	}
	s, ok := skinOf(sides)
	if !ok {
		return impl.Solid{}, false
	}
	if len(r.Loops) > 0 {
		s.Faces = append(s.Faces, impl.Face{Plane: impl.Plane{A: q(0, 1), B: q(0, 1), C: q(1, 1), D: hi}, Region: r},
			impl.Face{Plane: impl.Plane{A: q(0, 1), B: q(0, 1), C: q(-1, 1), D: q(-lo.Num, lo.Den)}, Region: r})
	}
	s = sortFaces(s)
	if len(s.Faces) > 40 || countRims(s) > 160 {
		return impl.Solid{}, false
	}
	return s, true
}

func checkPrism(t *testing.T, name any, r impl.Region, lo, hi impl.Q) (impl.Solid, bool) {
	t.Helper()
	want, fine := wantPrism(r, lo, hi)
	s, ok := impl.Prism(r, lo, hi)
	if ok != fine || !sameSolids(s, want) {
		t.Fatal("prism of", name, s, ok, "not", want, fine)
	}
	if !ok {
		return s, false
	}
	area, _ := wantMass(pointLoops(r.Loops))
	if !impl.SolidOk(s) || volumeOf(s).Cmp(timesRat(area, timesRat(minusRat(rat(hi), rat(lo)), big.NewRat(1, 2)))) != 0 {
		t.Fatal("prism of", name, "is no solid, or not as great as it should be:", s)
	}
	return s, true
}

func TestPrismsByHand(t *testing.T) {
	for _, c := range []struct {
		name        string
		r           impl.Region
		faces, rims int
	}{
		{"nothing", impl.Region{}, 0, 0},
		{"a rectangle", region(box(0, 0, 2, 3)), 6, 24},
		{"a triangle", region(lp(0, 0, 4, 1, 1, 5)), 5, 18},
		{"not convex", region(lp(0, 0, 4, 0, 1, 1, 0, 4)), 6, 24},
		{"a hole", made(t, box(0, 0, 6, 6), box(1, 1, 5, 5)), 10, 48},
		{"a hole aslant", made(t, box(0, 0, 6, 6), lp(1, 2, 2, 4, 4, 5)), 9, 42},
		{"pieces", region(box(0, 0, 1, 1), box(3, 3, 4, 4)), 10, 48},
		{"pieces in a row", region(box(0, 0, 1, 1), box(3, 0, 4, 1)), 8, 48},
		{"pieces that touch at a place", region(box(0, 0, 1, 1), box(1, 1, 2, 2)), 10, 48},
		{"edges on one line", region(lp(0, 0, 9, 0, 9, 2, 6, 2, 6, 1, 3, 1, 3, 2, 0, 2)), 9, 48},
		{"edges on one line that look to opposite sides", region(box(0, 0, 1, 1), box(3, 1, 4, 2)), 10, 48},
		// The outer edge is one face, though its loop has a place there.
		{"a hole with a corner on an edge", made(t, box(0, 0, 4, 4), lp(2, 0, 3, 1, 1, 1)), 9, 44},
		{"a corner of a piece on an edge of another", made(t, box(0, 0, 4, 4), lp(2, 4, 3, 5, 1, 5)), 9, 42},
		{"a part in a hole", made(t, box(0, 0, 6, 6), box(1, 1, 5, 5), box(2, 2, 4, 4)), 14, 72},
	} {
		for _, h := range [][2]impl.Q{{q(0, 1), q(1, 1)}, {q(-5, 3), q(7, 2)}, {q(-top, 1), q(top, 1)}, {q(1, top), q(1, top-1)}} {
			s, ok := checkPrism(t, c.name, c.r, h[0], h[1])
			if !ok || len(s.Faces) != c.faces || countRims(s) != c.rims {
				t.Error(c.name, "has", len(s.Faces), "faces and", countRims(s), "places")
			}
		}
	}
}

func TestPrismsMany(t *testing.T) {
	t.Parallel()
	good, bad := 0, 0
	for kind := range spotKinds {
		s := &shapes{spots{dice(50 + kind), kind}}
		for range 150 {
			r, ok := impl.MakeRegion(s.loops())
			lo, hi := s.coord(), s.coord()
			if rat(lo).Cmp(rat(hi)) > 0 {
				lo, hi = hi, lo
			}
			if !ok || lo == hi {
				continue
			}
			o, ok := checkPrism(t, r, r, lo, hi)
			if !ok {
				bad++
				continue
			}
			good++
			v := impl.V3{X: s.coord(), Y: s.coord(), Z: s.coord()}
			for _, z := range []impl.Q{v.Z, lo, hi} {
				v.Z = z
				if got, want := impl.Inside(o, v), inPrism(r, lo, hi, v); got != want {
					t.Fatal(v, "is", got, "not", want, "in the prism of", r, lo, hi)
				}
			}
		}
	}
	if good < 100 || bad < 10 {
		t.Error("too few of a kind:", good, bad)
	}
}

// inPrism is what Inside should tell of a prism.
func inPrism(r impl.Region, lo, hi impl.Q, v impl.V3) int64 {
	in := impl.Where(r, impl.V{X: v.X, Y: v.Y})
	low, high := rat(lo).Cmp(rat(v.Z)), rat(v.Z).Cmp(rat(hi))
	switch {
	case in == impl.WhereOut || low > 0 || high > 0:
		return impl.WhereOut
	case in == impl.WhereOn || low == 0 || high == 0:
		return impl.WhereOn
	}
	return impl.WhereIn
}

// squares are so many beside one another, from x on.
func squares(x, n int64) [][]impl.V {
	var list [][]impl.V
	for i := range n {
		list = append(list, box(x+3*i, i, x+3*i+2, i+1))
	}
	return list
}

func TestLimitsOfPrisms(t *testing.T) {
	triangle := lp(-9, 0, -7, 1, -8, 3)
	pinched := lps(box(-8, 0, 0, 8), lp(-6, 0, -5, 1, -7, 1), lp(-3, 0, -2, 1, -4, 1))
	for _, c := range []struct {
		name  string
		loops [][]impl.V
		rims  int
		fine  bool
	}{
		{"26 edges", append(squares(0, 5), triangle, lp(-9, -9, -7, -8, -8, -6)), 156, true},
		{"27 edges", append(squares(0, 6), triangle), 162, false},
		// Two edges have a place of a hole's corner in their middle, which their side has not.
		{"28 places", append(squares(2, 4), pinched...), 160, true},
		{"29 places", slices.Concat(squares(2, 3), pinched, lps(lp(20, 20, 22, 20, 24, 21, 22, 22, 20, 22))), 166, false},
		{"100 places", squares(0, 25), 600, false},
	} {
		r := made(t, c.loops...)
		s, ok := checkPrism(t, c.name, r, q(0, 1), q(1, 1))
		if ok != c.fine || ok && countRims(s) != c.rims {
			t.Error(c.name, "are told:", ok, countRims(s))
		}
	}
}

func TestPrismsRefused(t *testing.T) {
	sq, one, two := region(box(0, 0, 1, 1)), q(1, 1), q(2, 1)
	refused := func(name any, r impl.Region, lo, hi impl.Q) {
		t.Helper()
		if s, ok := impl.Prism(r, lo, hi); !isNoSolid(s, ok) {
			t.Error(name, "is a prism:", s)
		}
	}
	for _, r := range []impl.Region{sq, {}} {
		refused("of no height", r, one, one)
		refused("upside down", r, two, one)
		for _, bad := range brokenFractions() {
			refused(bad, r, bad, two)
			refused(bad, r, one, bad)
			refused(bad, r, bad, bad)
		}
	}
	for name, loops := range notOutlines() {
		refused(name, region(loops...), one, two)
	}
	for _, r := range brokenRegions() {
		refused(r, r, one, two)
	}
	// All places are fine, but a side's B, or D, is no Q.
	steep := region([]impl.V{at(0, 0), {X: q(top-1, 1), Y: q(1, 7)}, at(0, 1)})
	far := region(lp(1, top, 1, top-1, top, 1))
	for _, r := range []impl.Region{steep, far} {
		r = made(t, r.Loops...)
		if !impl.RegionOk(r) {
			t.Error(r, "is a region")
		}
		if _, ok := wantPrism(r, one, two); ok {
			t.Error(r, "has planes of Qs")
		}
		refused(r, r, one, two)
	}
}

// wantHull3 tries all planes through three places: those that have nothing ahead of them are of the hull.
func wantHull3(list []impl.V3) (impl.Solid, bool) {
	points := points3Of(list)
	on, fine := map[impl.Plane][]impl.V{}, true
	for i, a := range points {
		for j, b := range points {
			for k, c := range points {
				if i >= j && i >= k || i == j || j == k || !isOuter(a, b, c, points) {
					continue
				}
				p, ok := wantPlane(a, b, c)
				if !ok {
					fine = false
					continue
				}
				for _, o := range points {
					if over(p, o).Sign() == 0 {
						v, _ := dropped(p, o).place()
						on[p] = append(on[p], v)
					}
				}
			}
		}
	}
	var s impl.Solid
	for p, places := range on {
		s.Faces = append(s.Faces, impl.Face{Plane: p, Region: region(wantHull(places))})
	}
	if !fine || len(s.Faces) < 4 {
		return impl.Solid{}, false
	}
	return sortFaces(s), true
}

// isOuter tells whether a, b, c turn left from outside.
func isOuter(a, b, c point3, all []point3) bool {
	n := normalAt(a, b, c)
	if n.dot(n).Sign() == 0 {
		return false
	}
	behind := false
	for _, p := range all {
		turn := turnOf(a, b, c, p)
		if turn < 0 {
			return false
		}
		behind = behind || turn > 0
	}
	return behind
}

func checkHull3(t *testing.T, name any, list []impl.V3) (impl.Solid, bool) {
	t.Helper()
	want, fine := wantHull3(list)
	s, ok := impl.Hull3(list)
	if ok != fine || !sameSolids(s, want) {
		t.Fatal("hull of", name, list, s, ok, "not", want, fine)
	}
	if !ok {
		return s, false
	}
	if !impl.SolidOk(s) {
		t.Fatal("hull of", name, "is no solid:", s)
	}
	corners, _ := impl.Corners(s)
	for _, v := range corners {
		if !slices.Contains(list, v) {
			t.Fatal(v, "is a corner of the hull of", list)
		}
	}
	if again, ok := impl.Hull3(corners); !ok || !sameSolids(again, s) {
		t.Fatal("the hull of the hull of", name, "is", again)
	}
	return s, true
}

func mixed3(d *dice, list []impl.V3) []impl.V3 {
	var out []impl.V3
	for _, v := range list {
		out = slices.Insert(out, int(d.next()%uint64(len(out)+1)), v)
	}
	return out
}

func TestHullsByHand(t *testing.T) {
	cube := cornersOfBox(v3(0, 0, 0), v3(4, 4, 4))
	tip := []impl.V3{v3(0, 0, 0), v3(4, 0, 0), v3(0, 4, 0), v3(0, 0, 4)}
	d := dice(3)
	for _, c := range []struct {
		name  string
		list  []impl.V3
		faces int
	}{
		{"four places", tip, 4},
		{"four places, twice", slices.Concat(tip, tip), 4},
		{"a cube", cube, 6},
		{"a cube, and places inside", append(slices.Clone(cube), v3(1, 1, 1), v3(2, 3, 2)), 6},
		{"a cube, and places on one face", append(slices.Clone(cube), v3(1, 1, 4), v3(2, 3, 4), v3(3, 1, 4), v3(2, 2, 4)), 6},
		{"a cube, and places on one edge", append(slices.Clone(cube), v3(1, 0, 4), v3(2, 0, 4), v3(3, 0, 4)), 6},
		{"a cube, and one place twice", append(slices.Clone(cube), v3(4, 4, 4), v3(4, 4, 4)), 6},
		{"a cube and a place above", append(slices.Clone(cube), v3(2, 2, 6)), 9},
		{"a cube and a place in the plane of a face", append(slices.Clone(cube), v3(2, 6, 4)), 8},
		{"a cube and a place on the line of an edge", append(slices.Clone(cube), v3(0, 0, 6)), 7},
		{"eight corners that look to the axes", []impl.V3{v3(3, 0, 0), v3(-3, 0, 0), v3(0, 3, 0), v3(0, -3, 0), v3(0, 0, 3), v3(0, 0, -3)}, 8},
		{"a wedge", []impl.V3{v3(0, 0, 0), v3(4, 0, 0), v3(0, 4, 0), v3(0, 0, 4), v3(4, 0, 4), v3(0, 4, 4)}, 5},
		{"fourteen on a bowl", bowl3(14), 24},
		{"no place", nil, 0},
		{"one place", tip[:1], 0},
		{"two places", tip[:2], 0},
		{"three places", tip[:3], 0},
		{"one place, often", slices.Repeat(tip[1:2], 14), 0},
		{"three places, often", slices.Concat(tip[:3], tip[:3], tip[:3]), 0},
		{"all on one line", []impl.V3{v3(0, 0, 0), v3(1, 2, 3), v3(2, 4, 6), v3(-1, -2, -3), v3(5, 10, 15)}, 0},
		{"all on one plane", []impl.V3{v3(0, 0, 0), v3(1, 2, 3), v3(2, 4, 5), v3(3, 6, 8), v3(1, 2, 2)}, 0},
		{"fourteen on one plane", flat3(14), 0},
		{"thirteen on one plane and one above", append(flat3(13), v3(0, 0, 9)), 14},
	} {
		for range 5 {
			s, ok := checkHull3(t, c.name, c.list)
			if len(s.Faces) != c.faces || ok != (c.faces > 0) {
				t.Error("hull of", c.name, "has", len(s.Faces), "faces")
			}
			c.list = mixed3(&d, c.list)
		}
	}
}

// bowl3 are places of which none is in the hull of the others.
func bowl3(n int64) []impl.V3 {
	var list []impl.V3
	for i := range n {
		list = append(list, v3(i, i*i, i*i*i))
	}
	return list
}

// flat3 are places of one plane, all of them corners.
func flat3(n int64) []impl.V3 {
	var list []impl.V3
	for i := range n {
		list = append(list, v3(i, i*i, 0))
	}
	return list
}

func TestHullsMany(t *testing.T) {
	t.Parallel()
	good, bad := 0, 0
	for kind := range spotKinds {
		s := &spots{dice(60 + kind), kind}
		for range 60 {
			var list []impl.V3
			for range 3 + s.next()%7 {
				list = append(list, s.place3())
			}
			if _, ok := checkHull3(t, kind, list); ok {
				good++
			} else {
				bad++
			}
		}
	}
	// Of places of which many are on one plane.
	s := &spots{dice(66), 0}
	for range 40 {
		var list []impl.V3
		for range 12 {
			list = append(list, v3(s.upTo(1), s.upTo(1), s.upTo(2)))
		}
		checkHull3(t, "a small grid", list)
	}
	if good < 100 || bad < 20 {
		t.Error("too few of a kind:", good, bad)
	}
}

func TestHullsRefused(t *testing.T) {
	refused := func(name any, list []impl.V3) {
		t.Helper()
		if s, ok := impl.Hull3(list); !isNoSolid(s, ok) {
			t.Error(name, "has a hull:", s)
		}
	}
	refused("15 places", bowl3(15))
	refused("15 places, one of them often", append(bowl3(4), slices.Repeat(bowl3(1), 11)...))
	refused("many places", slices.Repeat(bowl3(14), 1000))
	for _, v := range broken3() {
		for k := range 5 {
			refused(v, slices.Insert(bowl3(4), k, v))
		}
	}
	// Places that are fine, with a plane that has a number that is no Q.
	slant := []impl.V3{v3(0, 0, 0), {X: q(top-1, 1), Y: q(1, 7), Z: q(0, 1)}, v3(0, 0, 1), v3(0, 1, 0)}
	if _, ok := checkHull3(t, "a slant", slant); ok {
		t.Error("a slant has a hull")
	}
	far := []impl.V3{v3(top, 1, 0), v3(1, top, 0), v3(top, 1, 1), v3(0, 0, 0)}
	if _, ok := checkHull3(t, "far away", far); ok {
		t.Error("places far away have a hull")
	}
	great := []impl.V3{v3(top, top, top), v3(-top, -top, top), v3(-top, top, -top), v3(top, -top, -top)}
	if s, ok := checkHull3(t, "great", great); !ok || len(s.Faces) != 4 {
		t.Error("great places have a hull", s)
	}
}

func TestLofts(t *testing.T) {
	sq, small, hex := box(0, 0, 4, 4), box(1, 1, 3, 3), lp(0, 0, 2, -1, 4, 0, 4, 3, 2, 5, 0, 3)
	raise := func(list []impl.V, z impl.Q) []impl.V3 {
		var up []impl.V3
		for _, v := range list {
			up = append(up, impl.V3{X: v.X, Y: v.Y, Z: z})
		}
		return up
	}
	for _, c := range []struct {
		name  string
		a, b  []impl.V
		faces int
	}{
		{"two squares", sq, small, 6},
		{"a square twice", sq, sq, 6},
		{"unlike loops", hex, sq, 0},
		{"a square and a triangle", sq, lp(1, 1, 3, 2, 1, 3), 0},
		{"a pyramid", sq, lp(2, 2), 5},
		{"a pyramid that hangs", lp(9, 9), sq, 5},
		{"a ridge", sq, lp(1, 2, 3, 2), 5},
		{"two pieces crosswise", lp(0, 0, 4, 4), lp(0, 4, 4, 0), 4},
		{"two pieces along one line", lp(0, 0, 4, 4), lp(1, 1, 3, 3), -1},
		{"two places", lp(0, 0), lp(1, 1), -1},
		{"none below", nil, sq, -1},
		{"none above", sq, nil, -1},
		{"none at all", nil, nil, -1},
		{"a loop in any order", lp(4, 4, 0, 0, 4, 0, 2, 1, 0, 4), small, 6},
		{"7 and 7", hexAnd(1), hexAnd(2), 0},
	} {
		for _, h := range [][2]impl.Q{{q(0, 1), q(1, 1)}, {q(5, 2), q(-7, 3)}} {
			places := slices.Concat(raise(c.a, h[0]), raise(c.b, h[1]))
			want, fine := checkHull3(t, c.name, places)
			s, ok := impl.Loft(c.a, h[0], c.b, h[1])
			if ok != fine || !sameSolids(s, want) || c.faces > 0 && len(s.Faces) != c.faces || ok != (c.faces >= 0) {
				t.Error("loft of", c.name, h, s, ok, "not", want, fine)
			}
			if s, ok := impl.Loft(c.b, h[1], c.a, h[0]); ok != fine || !sameSolids(s, want) {
				t.Error("loft of", c.name, "the other way round", s, ok)
			}
		}
		if s, ok := impl.Loft(c.a, q(3, 1), c.b, q(3, 1)); !isNoSolid(s, ok) {
			t.Error("flat loft of", c.name, s)
		}
	}
	if s, ok := impl.Loft(hexAnd(1), q(0, 1), append(hexAnd(2), at(0, 0)), q(1, 1)); !isNoSolid(s, ok) {
		t.Error("15 places", s)
	}
}

// hexAnd are 7 places, all corners of their hull.
func hexAnd(k int64) []impl.V {
	return lp(0, 0, 4*k, k, 5*k, 3*k, 4*k, 6*k, 2*k, 7*k, -k, 5*k, -2*k, 2*k)
}

func TestLoftsRefused(t *testing.T) {
	sq, one, two := box(0, 0, 4, 4), q(1, 1), q(2, 1)
	refused := func(name any, a []impl.V, lo impl.Q, b []impl.V, hi impl.Q) {
		t.Helper()
		if s, ok := impl.Loft(a, lo, b, hi); !isNoSolid(s, ok) {
			t.Error(name, "is a loft:", s)
		}
	}
	for _, bad := range brokenFractions() {
		for _, list := range [][]impl.V{sq, lp(1, 1), nil} {
			refused(bad, list, bad, sq, two)
			refused(bad, sq, one, list, bad)
		}
	}
	for _, v := range brokenPlaces() {
		for k := range 5 {
			refused(v, slices.Insert(slices.Clone(sq), k, v), one, sq, two)
			refused(v, sq, one, slices.Insert(slices.Clone(sq), k, v), two)
		}
	}
}

// A prism of a convex loop is a hull, and a loft of it to itself.
func TestPrismsAreHulls(t *testing.T) {
	t.Parallel()
	for kind := range 2 {
		s := &spots{dice(70 + kind), kind}
		for range 60 {
			var list []impl.V
			for range 3 + s.next()%5 {
				list = append(list, s.place())
			}
			loop := wantHull(list)
			lo, hi := s.coord(), s.coord()
			if len(loop) < 3 || rat(lo).Cmp(rat(hi)) >= 0 {
				continue
			}
			var places []impl.V3
			for _, v := range loop {
				places = append(places, impl.V3{X: v.X, Y: v.Y, Z: lo}, impl.V3{X: v.X, Y: v.Y, Z: hi})
			}
			prism, ok1 := impl.Prism(region(loop), lo, hi)
			hull, ok2 := impl.Hull3(places)
			loft, ok3 := impl.Loft(list, lo, loop, hi)
			if len(list)+len(loop) > 14 {
				continue
			}
			if !ok1 || !ok2 || !ok3 || !sameSolids(prism, hull) || !sameSolids(prism, loft) {
				t.Fatal("prism, hull and loft of", loop, lo, hi, "are", prism, hull, loft)
			}
		}
	}
}
