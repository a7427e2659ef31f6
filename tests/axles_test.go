package tests

import (
	"math/big"
	"testing"

	"loop.example/g00022/impl"
)

// Promise 14: centres, and inertia about lines.

// centre is that of masses; false where there is none, or a number is no Q.
func (m masses) centre() (point3, impl.V3, bool) {
	if m[0].Sign() == 0 {
		return point3{}, impl.V3{}, false
	}
	c := point3{m[1], m[2], m[3]}.times(new(big.Rat).Inv(m[0]))
	v, ok := c.place()
	return c, v, ok
}

// checkCentre tells whether there is one.
func checkCentre(t *testing.T, name any, s impl.Solid, want masses) bool {
	t.Helper()
	_, centre, fine := want.centre()
	if got, ok := impl.Centre(s); ok != fine || got != centre {
		t.Fatal(name, "has its centre at", got, ok, "not", centre, fine)
	}
	return fine
}

func TestCentresOfSolids(t *testing.T) {
	t.Parallel()
	for _, c := range solidCases() {
		for _, o := range []tetras{c.of, c.of.moved(aslant), c.of.moved(mapped3(aff3(1, 2, 3, 4, 0, -5, 6, 7, 1, 1, 1, 8)))} {
			s, ok := o.skin()
			if ok && checkCentre(t, c.name, s, o.masses()) != (len(s.Faces) > 0) {
				t.Error(c.name, "has no centre")
			}
		}
	}
	d := dice(230)
	for range 60 {
		c := d.tetraBy(99, 9)
		if isFlat(c) {
			continue
		}
		// Its corners weigh the same.
		want, fine := middleOf(c.places...).place()
		s, ok := c.skin()
		if !ok {
			continue
		}
		if got, ok := impl.Centre(s); ok != fine || got != want {
			t.Error(c.places, "has its centre at", got, ok, "not", want, fine)
		}
	}
}

func TestCentresByHand(t *testing.T) {
	for _, c := range []struct {
		name string
		of   tetras
		at   impl.V3
	}{
		{"a box", bx(0, 0, 0, 1, 2, 3), impl.V3{X: q(1, 2), Y: q(1, 1), Z: q(3, 2)}},
		{"a box below 0", bx(-9, -8, -7, -4, -4, -4), impl.V3{X: q(-13, 2), Y: q(-6, 1), Z: q(-11, 2)}},
		{"a tetrahedron", tt(0, 0, 0, 4, 0, 0, 0, 8, 0, 0, 0, 12), v3(1, 2, 3)},
		{"a pyramid", pyramid(whole3(1, 1, 4)), v3(1, 1, 1)},
		{"two parts, beside it", cubes([3]int64{}, [3]int64{2, 0, 0}), impl.V3{X: q(3, 2), Y: q(1, 2), Z: q(1, 2)}},
		{"unlike parts", inRow(5, bx(0, 0, 0, 1, 1, 1), bx(0, 0, 0, 3, 1, 1)), impl.V3{X: q(5, 1), Y: q(1, 2), Z: q(1, 2)}},
		{"not convex", cubes([3]int64{}, [3]int64{1, 0, 0}, [3]int64{0, 1, 0}), impl.V3{X: q(5, 6), Y: q(5, 6), Z: q(1, 2)}},
		{"a way through", cubes(less(block(3, 3, 1), [3]int64{1, 1, 0})...), impl.V3{X: q(3, 2), Y: q(3, 2), Z: q(1, 2)}},
		{"a hollow beside the midst", cubes(less(block(4, 3, 3), [3]int64{1, 1, 1})...), impl.V3{X: q(141, 70), Y: q(3, 2), Z: q(3, 2)}},
	} {
		s := checkSkin(t, c.name, c.of)
		if got, ok := impl.Centre(s); !ok || got != c.at {
			t.Error(c.name, "has its centre at", got, ok)
		}
	}
	if c, ok := impl.Centre(impl.Solid{}); ok || c != (impl.V3{}) {
		t.Error("nothing has a centre:", c)
	}
}

// The centre is told where masses are none.
func TestCentresWithoutMasses(t *testing.T) {
	none := [10]bool{}
	for _, c := range lonelyMasses(t) {
		if _, ok := impl.Mass(c.of); ok {
			t.Error(c.name, "is told")
		}
		if !checkCentre(t, c.name, c.of, c.want) {
			t.Error(c.name, "is no Q, and so there is no centre")
		}
		none[c.bad] = true
	}
	for i, was := range none[:4] {
		if !was {
			t.Error("none is without", namesOfMasses[i])
		}
	}
	for _, c := range []tetras{
		bx(-top, -top, -top, top, top, top), bx(0, 0, 0, top, top, top), bx(top-2, -top, 5, top, 2-top, 7),
		tt(-top, -top, -top, top, 0, 0, 0, top, 0, 0, 0, top), boxAt(new(big.Rat), big.NewRat(1, top), big.NewRat(1, top), big.NewRat(1, top)),
	} {
		s, _ := c.skin()
		if m := c.masses(); !checkCentre(t, c.places, s, m) {
			t.Error(c.places, "has no centre")
		} else if _, bad := m.told(); bad == nil {
			t.Error(c.places, "has masses")
		}
	}
}

func TestCentresThatAreNone(t *testing.T) {
	const p, o = 1000000007, 1000000009
	r := big.NewRat
	for _, c := range []struct {
		name     string
		from, to *big.Rat
		fine     bool
	}{
		{"short numbers", r(1, 3), r(1, 2), true},
		{"a number as long as can be", r(1, 500000003), r(1, 500000009), true},
		{"a number that is too long", r(1, p), r(1, o), false},
		{"10^18 by 7", r(top/5*3, 7), r(top, 5), true},
		{"-10^18 by 7", r(-top, 5), r(-top/5*3, 7), true},
		{"10^18 and 1 by 7", r(top/5*3+2, 7), r(top, 5), false},
		{"-10^18 less 1 by 7", r(-top, 5), r(-top/5*3-2, 7), false},
		{"1 by 10^18", r(0, 1), r(1, top/2), true},
		{"1 by twice 10^18", r(0, 1), r(1, top), false},
	} {
		half := timesRat(minusRat(c.to, c.from), r(1, 2))
		for i := range 3 {
			s := turnedOn(boxAt(plusRat(c.from, half), half, r(1, 1), r(1, 1)), i)
			skin, ok := s.skin()
			if !ok || !impl.SolidOk(skin) {
				t.Fatal(c.name, "is no box")
			}
			if checkCentre(t, c.name, skin, s.masses()) != c.fine {
				t.Error(c.name, "along", i, "has a centre:", !c.fine)
			}
		}
	}
}

// about is what Inertia integrates: the square of w x u, number for number.
func about(p, u point3) field {
	return func(v point3) *big.Rat {
		w, sum := v.minus(p), new(big.Rat)
		for i := range w {
			j, k := (i+1)%3, (i+2)%3
			n := minusRat(timesRat(w[j], u[k]), timesRat(w[k], u[j]))
			sum = plusRat(sum, timesRat(n, n))
		}
		return sum
	}
}

// checkInertia tells whether it is told.
func checkInertia(t *testing.T, name any, s impl.Solid, c tetras, p, u impl.V3) bool {
	t.Helper()
	want, fine := asQ(c.integral(about(point3Of(p), point3Of(u))))
	if got, ok := impl.Inertia(s, p, u); ok != fine || got != want {
		t.Fatal(name, "about", p, u, "has", got, ok, "not", want, fine)
	}
	return fine
}

func TestInertiaOfSolids(t *testing.T) {
	t.Parallel()
	d := dice(240)
	ways := []impl.V3{v3(1, 0, 0), v3(0, 1, 0), v3(0, 0, 1), v3(0, 0, -3), v3(1, 1, 0), v3(-1, 2, 3), {X: q(1, 2), Y: q(-2, 3), Z: q(5, 1)}, v3(0, 0, 0), v3(3, -6, -9)}
	for _, c := range solidCases() {
		for k, o := range []tetras{c.of, c.of.moved(aslant)} {
			s, ok := o.skin()
			if !ok || len(o.list) > 400 && k > 0 {
				continue
			}
			through := []impl.V3{v3(0, 0, 0), {X: q(1, 2), Y: q(1, 3), Z: q(-1, 4)}, v3(-90, 7, 500)}
			if centre, ok := impl.Centre(s); ok {
				through = append(through, centre)
			}
			if corners, _ := impl.Corners(s); len(corners) > 0 {
				through = append(through, corners[d.next()%uint64(len(corners))])
			}
			for i, p := range through {
				for _, u := range []impl.V3{ways[d.next()%uint64(len(ways))], ways[(i+k)%3]} {
					if !checkInertia(t, c.name, s, o, p, u) {
						t.Error(c.name, "about", p, u, "has none")
					}
				}
			}
		}
	}
}

func TestInertiaByHand(t *testing.T) {
	box := skins(bx(0, 0, 0, 1, 2, 3))[0]
	for _, c := range []struct {
		name string
		p, u impl.V3
		want impl.Q
	}{
		// 2, 8 and 18 are the masses of the squares, and 6 is the volume.
		{"the X axis", v3(0, 0, 0), v3(1, 0, 0), q(26, 1)},
		{"the Y axis", v3(0, 0, 0), v3(0, 1, 0), q(20, 1)},
		{"the Z axis", v3(0, 0, 0), v3(0, 0, 1), q(10, 1)},
		{"the Z axis, turned round", v3(0, 0, 0), v3(0, 0, -1), q(10, 1)},
		{"the Z axis, from elsewhere on it", v3(0, 0, 77), v3(0, 0, 1), q(10, 1)},
		{"the Z axis, by a third", v3(0, 0, 0), impl.V3{X: q(0, 1), Y: q(0, 1), Z: q(1, 3)}, q(10, 9)},
		{"the Z axis, ten times as long", v3(0, 0, 0), v3(0, 0, 10), q(1000, 1)},
		{"no direction", v3(5, 6, 7), v3(0, 0, 0), q(0, 1)},
		{"through the centre", impl.V3{X: q(1, 2), Y: q(1, 1), Z: q(3, 2)}, v3(0, 0, 1), q(5, 2)},
		{"through the corner that is greatest", v3(1, 2, 3), v3(0, 0, 1), q(10, 1)},
		{"through an edge's middle", impl.V3{X: q(1, 2), Y: q(0, 1), Z: q(0, 1)}, v3(0, 0, 1), q(17, 2)},
		{"far away", v3(100, 0, 0), v3(0, 0, 1), q(59410, 1)},
		{"aslant", v3(0, 0, 0), v3(1, 1, 0), q(40, 1)},
		{"along the diagonal", v3(0, 0, 0), v3(1, 1, 1), q(23, 1)},
	} {
		if got, ok := impl.Inertia(box, c.p, c.u); !ok || got != c.want {
			t.Error(c.name, "has", got, ok, "not", c.want)
		}
		if got, ok := impl.Inertia(impl.Solid{}, c.p, c.u); !ok || got != q(0, 1) {
			t.Error(c.name, "of nothing", got, ok)
		}
	}
}

func TestInertiaAtTheLimit(t *testing.T) {
	r := big.NewRat
	one, none := q(1, 1), q(0, 1)
	// About the Z axis it is 16 by 3 times the half of the height.
	bar := func(half *big.Rat) tetras { return boxAt(new(big.Rat), r(1, 1), r(1, 1), half) }
	vast, fine := bx(-top, -top, -top, top, top, top), bx(0, 0, 0, 1, 2, 3)
	far, axis := v3(top, -top, top), v3(0, 0, 1)
	along := func(u impl.Q) impl.V3 { return impl.V3{X: none, Y: none, Z: u} }
	for _, c := range []struct {
		name         string
		of           tetras
		p, u         impl.V3
		told, masses bool
	}{
		{"10^18", bar(r(3*top, 16)), v3(0, 0, 0), axis, true, false},
		{"more than 10^18", bar(r(3*top+16, 16)), v3(0, 0, 0), axis, false, false},
		{"10^18 by its direction", bar(r(300, 16)), v3(0, 0, 0), v3(0, 0, 100000000), true, true},
		{"more than 10^18 by its direction", bar(r(300, 16)), v3(0, 0, 0), v3(0, 0, 100000001), false, true},
		{"masses that are none", bar(r(top, 1)), v3(0, 0, 0), along(q(1, 2)), false, false},
		{"masses that are none, and a short direction", bar(r(top, 1)), v3(0, 0, 0), along(q(1, 1000)), true, false},
		{"a volume that is none", vast, v3(0, 0, 0), axis, false, false},
		{"a volume that is none, and no direction", vast, v3(0, 0, 0), v3(0, 0, 0), true, false},
		{"far away", fine, far, axis, false, true},
		{"far away, along a line through the origin", fine, far, v3(top, -top, top), false, true},
		{"far away, with no direction", fine, far, v3(0, 0, 0), true, true},
		{"far away along the line", fine, v3(0, 0, top), axis, true, true},
		{"far away, by a short direction", fine, v3(1000000, 0, 0), along(q(1, 1000000)), true, true},
		{"a long direction", fine, v3(0, 0, 0), v3(top, 0, 0), false, true},
		{"a direction by 10^9", fine, v3(0, 0, 0), along(q(1, 1000000000)), true, true},
		{"a direction by more", fine, v3(0, 0, 0), along(q(1, 10000000019)), false, true},
		{"a place by many", fine, impl.V3{X: q(1, 10000000019), Y: none, Z: none}, axis, false, true},
		{"a place by many, along its line", fine, impl.V3{X: q(1, 10000000019), Y: none, Z: none}, impl.V3{X: one, Y: none, Z: none}, true, true},
		{"the greatest place and the shortest direction", fine, far, along(q(1, top)), false, true},
	} {
		s, ok := c.of.skin()
		if !ok || !impl.SolidOk(s) {
			t.Fatal(c.name, "is no solid")
		}
		if checkInertia(t, c.name, s, c.of, c.p, c.u) != c.told {
			t.Error(c.name, "is told:", !c.told)
		}
		if _, ok := impl.Mass(s); ok != c.masses {
			t.Error(c.name, "has masses:", ok)
		}
	}
	// With masses that are none, each of the ten in turn.
	told := 0
	for _, c := range lonelyMasses(t)[1:] {
		for _, u := range []impl.V3{v3(1, 0, 0), v3(0, 1, 0), v3(0, 0, 1), {X: q(1, 1000), Y: none, Z: none}} {
			want, fine := asQ(inertiaBy(c.want, point3Of(u)))
			if got, ok := impl.Inertia(c.of, v3(0, 0, 0), u); ok != fine || got != want {
				t.Error(c.name, "about", u, "has", got, ok, "not", want, fine)
			}
			if fine {
				told++
			}
		}
	}
	if told < 12 {
		t.Error("only", told, "are told")
	}
}

// inertiaBy is that about a line through the origin, by the masses of the squares and products.
func inertiaBy(m masses, u point3) *big.Rat {
	sum := timesRat(plusRat(plusRat(m[4], m[5]), m[6]), u.dot(u))
	for i := range u {
		for k := range u {
			sum = minusRat(sum, timesRat(m.of(i, k), timesRat(u[i], u[k])))
		}
	}
	return sum
}

func TestInertiaMany(t *testing.T) {
	t.Parallel()
	good, bad := 0, 0
	for kind := range spotKinds {
		d := &spots{dice(250 + kind), kind}
		for range 60 {
			c := d.tetraBy(9, 3)
			if isFlat(c) {
				continue
			}
			s, ok := c.skin()
			if ok && checkInertia(t, kind, s, c, d.place3(), d.place3()) {
				good++
			} else {
				bad++
			}
		}
	}
	if good < 60 || bad < 60 {
		t.Error("too few of a kind:", good, bad)
	}
}

func TestInertiaRefused(t *testing.T) {
	for _, s := range []impl.Solid{skins(bx(0, 0, 0, 1, 2, 3))[0], {}} {
		for _, bad := range broken3() {
			for _, c := range [][2]impl.V3{{bad, v3(1, 0, 0)}, {v3(0, 0, 0), bad}, {bad, v3(0, 0, 0)}, {bad, bad}} {
				if i, ok := impl.Inertia(s, c[0], c[1]); ok || i != (impl.Q{}) {
					t.Error(c, "has", i)
				}
			}
			if f, ok := impl.Facing(s, bad); ok || f != (impl.Q{}) {
				t.Error(bad, "is faced by", f)
			}
		}
	}
}
