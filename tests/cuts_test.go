package tests

import (
	"math/big"
	"testing"

	"loop.example/g00022/impl"
)

// Promise 13: what planes cut off.

// planeBy is scaled as a plane wants it; its places have the product d by den with a, b, c.
func planeBy(a, b, c, d, den int64) impl.Plane {
	p, ok := planeAs([4]*big.Rat{big.NewRat(a, 1), big.NewRat(b, 1), big.NewRat(c, 1), big.NewRat(d, den)})
	if !ok {
		panic("no plane")
	}
	return p
}

// checkCut holds what is left on both sides of a plane against rooms, and puts it together again; it counts what is refused.
func checkCut(t *testing.T, name any, c tetras, p impl.Plane) (refused int) {
	t.Helper()
	s, _ := c.skin()
	all := roomsOf([]impl.Solid{s}, p)
	in := all.within(c.has)
	var parts [2]impl.Solid
	for k, plane := range []impl.Plane{p, turnedRound(p)} {
		left := make([]bool, len(in))
		for i, m := range all.middles {
			left[i] = in[i] && over(plane, m).Sign() < 0
		}
		want, fine := all.skin(left)
		got, ok := impl.Cut(s, plane)
		if ok != fine || !sameSolids(got, want) {
			t.Fatal(name, "cut by", plane, "is", got, ok, "not", want, fine)
		}
		if !ok {
			refused++
		} else if !impl.SolidOk(got) {
			t.Fatal(name, "cut by", plane, "is no solid:", got)
		}
		parts[k] = got
	}
	if refused > 0 {
		return refused
	}
	whole, ok1 := impl.Join(parts[0], parts[1], impl.OpOr)
	none, ok2 := impl.Join(parts[0], parts[1], impl.OpAnd)
	if !ok1 || !ok2 || !sameSolids(whole, s) || len(none.Faces) > 0 || impl.Overlap(parts[0], parts[1]) != 0 {
		t.Fatal(name, "cut by", p, "and put together is", whole, ok1, "with", none, ok2, "in common")
	}
	if rest, ok := impl.Join(s, parts[0], impl.OpLess); !ok || !sameSolids(rest, parts[1]) {
		t.Fatal(name, "without what is behind", p, "is", rest, ok, "not", parts[1])
	}
	if plusRat(volumeOf(parts[0]), volumeOf(parts[1])).Cmp(volumeOf(s)) != 0 {
		t.Fatal(name, "cut by", p, "is not as great as it was")
	}
	return 0
}

// planesAt are planes that meet a solid's corners, edges and faces in all ways: along a face, through an edge and another
// corner, through a corner and no other, beside the solid and through the midst of it.
func (d *dice) planesAt(c tetras) []impl.Plane {
	s, _ := c.skin()
	corners, _ := impl.Corners(s)
	edges, _ := impl.EdgesOf(s)
	pick := func() point3 { return point3Of(corners[d.next()%uint64(len(corners))]) }
	list := []impl.Plane{s.Faces[d.next()%uint64(len(s.Faces))].Plane}
	put := func(p impl.Plane, ok bool) {
		if ok {
			list = append(list, p)
		}
	}
	e := edges[d.next()%uint64(len(edges))]
	put(wantPlane(point3Of(e.A), point3Of(e.B), pick()))
	put(wantPlane(point3Of(e.A), point3Of(e.B), whole3(d.upTo(3), d.upTo(3), d.upTo(3))))
	put(wantPlane(pick(), pick(), pick()))
	up, at := [3]int64{1 + d.upTo(1), 3, 5 + d.upTo(2)}, pick()
	n := whole3(up[0], up[1], up[2])
	put(planeAs([4]*big.Rat{n[0], n[1], n[2], n.dot(at)}))
	put(planeAs([4]*big.Rat{n[0], n[1], n[2], n.dot(middleOf(pick(), pick(), pick()))}))
	put(planeAs([4]*big.Rat{n[1], n[0], n[2], big.NewRat(500, 1)}))
	return list
}

func TestCutsMany(t *testing.T) {
	for i, c := range solidCases()[1:] {
		t.Run(c.name, func(t *testing.T) {
			t.Parallel()
			d := dice(170 + i)
			for k, o := range []tetras{c.of, c.of.moved(aslant)} {
				if s, ok := o.skin(); !ok || len(s.Faces) > 14 && k > 0 {
					continue
				}
				for n, p := range d.planesAt(o) {
					if (n+k)%2 == 0 || n < 4 {
						checkCut(t, c.name, o, p)
					}
				}
			}
		})
	}
}

func TestCutsByHand(t *testing.T) {
	mid := [3]int64{1, 1, 1}
	cube, hollow := bx(0, 0, 0, 3, 3, 3), cubes(less(block(3, 3, 3), mid)...)
	frame := cubes(less(block(3, 3, 1), [3]int64{1, 1, 0})...)
	for _, c := range []struct {
		name        string
		of          tetras
		p           impl.Plane
		faces, rims int
	}{
		{"all of it is behind", cube, pl(1, 0, 0, 5), 6, 24},
		{"all of it is ahead", cube, pl(1, 0, 0, -5), 0, 0},
		{"all of it is ahead, turned round", cube, pl(-1, 0, 0, -5), 0, 0},
		{"along a face, all behind", cube, pl(1, 0, 0, 3), 6, 24},
		{"along a face, all ahead", cube, pl(-1, 0, 0, -3), 0, 0},
		{"along the lower face, all behind", cube, pl(0, 0, -1, 0), 6, 24},
		{"along the lower face, all ahead", cube, pl(0, 0, 1, 0), 0, 0},
		{"through the midst", cube, pl(1, 0, 0, 1), 6, 24},
		{"through the midst, aslant", cube, pl(1, 1, 1, 4), 7, 30},
		{"through two edges", cube, pl(1, -1, 0, 0), 5, 18},
		{"through one edge, all behind", cube, pl(1, 1, 0, 6), 6, 24},
		{"through one edge, all ahead", cube, pl(1, 1, 0, 0), 0, 0},
		{"through a corner alone, all behind", cube, pl(1, 1, 1, 9), 6, 24},
		{"through a corner alone, all ahead", cube, pl(1, 1, 1, 0), 0, 0},
		{"through three corners", cube, pl(1, 1, 1, 6), 7, 24},
		{"a corner off", cube, pl(1, 1, 1, 7), 7, 30},
		{"a corner left", cube, pl(1, 1, 1, 2), 4, 12},
		{"six sides", cube, planeBy(1, 1, 1, 9, 2), 7, 30},
		{"through a hollow", hollow, planeBy(0, 0, 1, 3, 2), 11, 48},
		{"along a face of a hollow", hollow, pl(0, 0, 1, 1), 6, 24},
		{"along the other face of a hollow", hollow, pl(0, 0, 1, 2), 11, 48},
		{"through a way, across", frame, pl(1, 0, 0, 2), 9, 48},
		{"through the midst of a way", frame, planeBy(1, 0, 0, 3, 2), 9, 48},
		{"two arms", cubes([3]int64{0, 0, 0}, [3]int64{0, 0, 1}, [3]int64{0, 0, 2}, [3]int64{1, 0, 0}, [3]int64{1, 0, 2}), pl(-1, 0, 0, -1), 8, 48},
		{"two arms, cut short", cubes([3]int64{0, 0, 0}, [3]int64{0, 0, 1}, [3]int64{0, 0, 2}, [3]int64{1, 0, 0}, [3]int64{1, 0, 2}), planeBy(-1, 0, 0, -3, 2), 8, 48},
		{"along a way's face, from inside", frame, pl(1, 0, 0, 1), 6, 24},
		{"parts that touch, one of them", cubes([3]int64{}, [3]int64{1, 1, 0}), pl(1, 0, 0, 1), 6, 24},
		{"parts, both of them", cubes([3]int64{}, [3]int64{3, 0, 0}), pl(0, 0, 1, 0), 0, 0},
		{"parts, between them", cubes([3]int64{}, [3]int64{3, 0, 0}), pl(1, 0, 0, 2), 6, 24},
	} {
		s := checkSkin(t, c.name, c.of)
		got, ok := impl.Cut(s, c.p)
		if !ok || len(got.Faces) != c.faces || countRims(got) != c.rims {
			t.Error(c.name, "has", len(got.Faces), "faces and", countRims(got), "places", ok)
		}
		checkCut(t, c.name, c.of, c.p)
	}
	for _, p := range []impl.Plane{pl(1, 0, 0, 0), pl(-1, 2, 3, 4), pl(0, 0, -1, top)} {
		if s, ok := impl.Cut(impl.Solid{}, p); !ok || len(s.Faces) > 0 {
			t.Error("of nothing is left", s, ok)
		}
	}
}

// A pyramid loses its top: it has a face and 8 places more then. All else stays as it is.
func TestLimitsOfCuts(t *testing.T) {
	spire := checkSkin(t, "a spire", pyramid(whole3(1, 1, 3)).moved(func(p point3) point3 { return point3{minusRat(new(big.Rat), p[2]), p[0], p[1]} }))
	pit, _ := impl.MapSolid(pitted(), aff3(1, 0, 0, 900, 0, 1, 0, 90, 0, 0, 1, 90))
	for _, c := range []struct {
		name        string
		of          impl.Solid
		faces, rims int
	}{
		{"40 faces", merged(spire, rowOf(t, 20, 6, 2, 0)), 40, 128},
		{"41 faces", merged(spire, rowOf(t, 20, 5, 3, 0)), 41, 132},
		{"160 places", merged(spire, rowOf(t, 20, 2, 1, 4)), 31, 160},
		{"161 places", merged(spire, pit, rowOf(t, 20, 1, 1, 3)), 34, 161},
		{"164 places", merged(spire, rowOf(t, 20, 1, 2, 4)), 32, 164},
	} {
		if !impl.SolidOk(c.of) || len(c.of.Faces) != c.faces-1 || countRims(c.of) != c.rims-8 {
			t.Fatal(c.name, "is no solid as it should be:", len(c.of.Faces), countRims(c.of))
		}
		got, ok := impl.Cut(c.of, pl(-1, 0, 0, 2))
		if fine := c.faces <= 40 && c.rims <= 160; ok != fine || ok && (len(got.Faces) != c.faces || countRims(got) != c.rims) || !ok && len(got.Faces) > 0 {
			t.Error(c.name, "has", len(got.Faces), "faces and", countRims(got), "places", ok)
		}
		if tip, ok := impl.Cut(c.of, pl(1, 0, 0, -2)); !ok || len(tip.Faces) != 5 {
			t.Error(c.name, "leaves the tip", tip, ok)
		}
	}
}

func TestCutsAtCornersThatAreNone(t *testing.T) {
	const p, o, r = 1000000007, 998244353, 999999937
	slant := impl.Plane{A: q(1, 1), B: q(p, o), C: q(0, 1), D: q(1, 2)}
	for _, c := range []struct {
		name string
		high impl.Q
		fine bool
	}{{"a short number", q(1, 4), true}, {"a number that is as long as can be", q(1, 7), true}, {"a number that is too long", q(1, r), false}} {
		// The plane meets the edge at that height at an X of which the denominator is 2 o times that of the height.
		s := betweenPlaces(v3(0, 0, 0), impl.V3{X: q(1, 1), Y: c.high, Z: q(1, 1)})
		if refused := checkCut(t, c.name, s, slant); (refused == 0) != c.fine {
			t.Error(c.name, "is refused", refused)
		}
	}
	// All faces leave out Z, which alone is no Q at the corners that are cut: 1 by o r.
	for r, fine := range map[int64]bool{7: true, 1000000009: false} {
		const o = 1000000007
		low := big.NewRat(1, o)
		s := tetra(whole3(0, 0, 0), whole3(0, 1, 0), point3{big.NewRat(-1, 1), big.NewRat(-1, 1), low}, point3{big.NewRat(1, 1), new(big.Rat), low})
		by := impl.Plane{A: q(1, 1), B: q(0, 1), C: q(o, 1), D: q(2, r)}
		if refused := checkCut(t, "left out", s, by); (refused == 0) != fine {
			t.Error("1 by o times", r, "is refused", refused)
		}
	}
	far := betweenPlaces(v3(-top, -top, -top), v3(top, top, top))
	for _, plane := range []impl.Plane{pl(1, 1, 0, 0), pl(1, 2, 3, 0), pl(1, 0, 0, top-1), pl(1, -1, 0, top), planeBy(2, 3, 5, 1, 7)} {
		checkCut(t, "a great box", far, plane)
	}
}

func TestCutsRefused(t *testing.T) {
	for _, s := range []impl.Solid{skins(bx(0, 0, 0, 1, 2, 3))[0], {}} {
		for _, p := range brokenPlanes() {
			if o, ok := impl.Cut(s, p); !isNoSolid(o, ok) {
				t.Error(p, "cuts off", o)
			}
		}
	}
}

// wantBevel tells the plane that cuts an edge off, by the document's words.
func wantBevel(p, q impl.Plane, by impl.Q) (impl.Plane, bool) {
	up := normalOf(p).plus(normalOf(q))
	return planeAs([4]*big.Rat{up[0], up[1], up[2], minusRat(plusRat(rat(p.D), rat(q.D)), rat(by))})
}

// checkBevel tells whether it is refused.
func checkBevel(t *testing.T, name any, s impl.Solid, p, q impl.Plane, by impl.Q) (impl.Solid, bool) {
	t.Helper()
	var want impl.Solid
	plane, fine := wantBevel(p, q, by)
	if fine {
		want, fine = impl.Cut(s, plane)
	}
	got, ok := impl.Bevel(s, p, q, by)
	turned, ok2 := impl.Bevel(s, q, p, by)
	if ok != fine || ok2 != fine || !sameSolids(got, want) || !sameSolids(turned, want) {
		t.Fatal(name, "bevelled between", p, q, "by", by, "is", got, ok, "and", turned, ok2, "not", want, fine)
	}
	return got, ok
}

func TestBevelsByHand(t *testing.T) {
	box := skins(bx(0, 0, 0, 2, 3, 4))[0]
	slant, _ := bx(0, 0, 0, 2, 3, 4).moved(aslant).skin()
	right, left, upper := pl(1, 0, 0, 2), pl(-1, 0, 0, 0), pl(0, 0, 1, 4)
	for _, c := range []struct {
		name  string
		p, q  impl.Plane
		by    impl.Q
		faces int
		plane impl.Plane
	}{
		{"an edge", right, upper, q(1, 1), 7, pl(1, 0, 1, 5)},
		{"an edge, a little", right, upper, q(1, 1000), 7, impl.Plane{A: q(1, 1), B: q(0, 1), C: q(1, 1), D: q(5999, 1000)}},
		{"by nothing", right, upper, q(0, 1), 6, impl.Plane{}},
		{"an edge to the next one", right, upper, q(2, 1), 6, pl(1, 0, 1, 4)},
		{"a lower edge", left, pl(0, -1, 0, 0), q(1, 2), 7, impl.Plane{A: q(-1, 1), B: q(-1, 1), C: q(0, 1), D: q(-1, 2)}},
		{"all of it", right, upper, q(6, 1), 0, impl.Plane{}},
		{"all but nothing", right, upper, q(7, 1), 0, impl.Plane{}},
		{"much more than all of it", right, upper, q(top, 1), 0, impl.Plane{}},
		{"nearly all of it", right, upper, q(5, 1), 5, pl(1, 0, 1, 1)},
		{"a face with itself", right, right, q(1, 1), 6, impl.Plane{A: q(1, 1), B: q(0, 1), C: q(0, 1), D: q(3, 2)}},
		{"the first number is 2", pl(1, 1, 0, 5), pl(1, -1, 2, 3), q(4, 1), 5, pl(1, 0, 1, 2)},
		{"the first number is below 0", pl(-1, 0, 0, 0), pl(0, 0, 1, 4), q(1, 1), 7, pl(-1, 0, 1, 3)},
		{"the first number is -2", pl(-1, 0, 1, 0), pl(-1, 0, 1, 4), q(2, 1), 6, pl(-1, 0, 1, 1)},
		{"the first number goes", pl(1, 2, 0, 2), pl(-1, 0, 1, 4), q(0, 1), 6, impl.Plane{A: q(0, 1), B: q(1, 1), C: q(1, 2), D: q(3, 1)}},
		{"the first two numbers go", pl(1, 2, 0, 2), pl(-1, -2, 3, 4), q(1, 1), 6, impl.Plane{A: q(0, 1), B: q(0, 1), C: q(1, 1), D: q(5, 3)}},
		{"the first two numbers go, and the last is below 0", pl(1, 2, 0, 2), pl(-1, -2, -3, -6), q(1, 1), 6, impl.Plane{A: q(0, 1), B: q(0, 1), C: q(-1, 1), D: q(-5, 3)}},
		{"planes that are beside", pl(1, 0, 0, 90), pl(0, 1, 0, 90), q(1, 1), 6, impl.Plane{}},
	} {
		s, ok := checkBevel(t, c.name, box, c.p, c.q, c.by)
		if !ok || len(s.Faces) != c.faces {
			t.Error(c.name, "has", len(s.Faces), "faces", ok)
		}
		hasPlane := false
		for _, f := range s.Faces {
			hasPlane = hasPlane || f.Plane == c.plane
		}
		if c.plane != (impl.Plane{}) && !hasPlane {
			t.Error(c.name, "has no face on", c.plane, "but", s)
		}
		if o, ok := checkBevel(t, c.name, impl.Solid{}, c.p, c.q, c.by); !ok || len(o.Faces) > 0 {
			t.Error(c.name, "of nothing", o, ok)
		}
	}
	made := 0
	for i, f := range slant.Faces {
		for _, g := range slant.Faces[:i] {
			for _, by := range []impl.Q{q(0, 1), q(1, 7), q(1, 1), q(99, 1)} {
				if s, ok := checkBevel(t, "aslant", slant, f.Plane, g.Plane, by); ok && len(s.Faces) == 7 {
					made++
				}
			}
		}
	}
	if made < 12 {
		t.Error("only", made, "edges aslant were bevelled")
	}
}

func TestBevelsRefused(t *testing.T) {
	box := skins(bx(0, 0, 0, 2, 3, 4))[0]
	right, upper := pl(1, 0, 0, 2), pl(0, 0, 1, 4)
	refused := func(name any, s impl.Solid, p, o impl.Plane, by impl.Q) {
		t.Helper()
		for range 2 {
			if got, ok := impl.Bevel(s, p, o, by); !isNoSolid(got, ok) {
				t.Error(name, "is bevelled:", got)
			}
			p, o = o, p
		}
	}
	for _, s := range []impl.Solid{box, {}} {
		for _, p := range brokenPlanes() {
			refused(p, s, p, upper, q(1, 1))
		}
		for _, bad := range brokenFractions() {
			refused(bad, s, right, upper, bad)
		}
		refused("below 0", s, right, upper, q(-1, 1))
		refused("a little below 0", s, right, upper, q(-1, top))
		refused("no direction", s, right, pl(-1, 0, 0, 0), q(1, 1))
		refused("no direction, of one plane", s, pl(1, 2, 3, 4), pl(-1, -2, -3, -4), q(0, 1))
		refused("no direction, of two planes", s, pl(1, 2, 3, 4), pl(-1, -2, -3, 9), q(1, 1))
	}
	const p, o = 1000000007, 1000000009
	long := func(b, c, d impl.Q) impl.Plane { return impl.Plane{A: q(1, 1), B: b, C: c, D: d} }
	back := func(b, c, d impl.Q) impl.Plane { return impl.Plane{A: q(-1, 1), B: b, C: c, D: d} }
	one, none := q(1, 1), q(0, 1)
	for name, c := range map[string]struct {
		p, q impl.Plane
		by   impl.Q
		fine bool
	}{
		"B after adding":              {long(q(1, p), none, one), long(q(1, o), none, one), none, false},
		"C after adding":              {long(none, q(1, p), one), long(none, q(1, o), one), none, false},
		"D after adding":              {long(none, none, q(1, p)), long(none, none, q(1, o)), none, false},
		"D of t after adding":         {long(none, none, q(1, p)), long(none, none, one), q(1, o), false},
		"D is too great after adding": {right, impl.Plane{A: none, B: none, C: one, D: q(top, 1)}, none, false},
		"D is as great as can be":     {pl(1, 0, 0, 0), impl.Plane{A: none, B: none, C: one, D: q(top, 1)}, none, true},
		"C after dividing":            {long(q(p, 1), none, one), back(none, q(1, o), one), none, false},
		"D after dividing":            {long(q(p, 1), none, one), back(none, none, q(1, o)), none, false},
		"C is too great afterwards":   {long(q(1, top), none, one), back(none, q(7, 1), one), none, false},
		// How great the numbers are that come up on the way does not matter.
		"B is too great after adding alone": {long(q(top, 1), none, one), long(q(top, 1), none, one), none, true},
		"D is too great after adding alone": {long(none, none, q(top, 1)), long(none, none, q(top, 1)), none, true},
		"B and C alone are too great":       {long(q(top, 1), q(top, 1), none), back(q(top, 1), q(top, 1), none), none, true},
	} {
		if _, ok := checkBevel(t, name, box, c.p, c.q, c.by); ok != c.fine {
			t.Error(name, "is told:", ok)
		}
	}
	// A corner that is no Q, and one face too many.
	if _, ok := checkBevel(t, "a corner", skins(betweenPlaces(v3(0, 0, 0), impl.V3{X: one, Y: q(1, 999999937), Z: one}))[0], long(q(p, o), none, one), long(q(p, o), none, none), none); ok {
		t.Error("a corner that is none is told")
	}
	full := rowOf(t, 20, 10, 0, 0)
	corner := full.Faces[0].Plane
	for _, f := range full.Faces[1:] {
		if s, ok := checkBevel(t, "40 faces", full, corner, f.Plane, q(1, 9)); ok && len(s.Faces) > 40 {
			t.Error("41 faces", s)
		}
	}
}
