package tests

import (
	"math/big"
	"testing"

	"loop.example/g00022/impl"
)

// Promise 14: what faces a direction. Here it is added up over triangles of the border, by their own directions.

// facing is half of what the cross products of two sides of each triangle have toward u, where that is above 0.
func (c tetras) facing(u point3) *big.Rat {
	sum := new(big.Rat)
	for _, s := range c.border() {
		if toward := normalAt(s[0], s[1], s[2]).dot(u); toward.Sign() > 0 {
			sum = plusRat(sum, toward)
		}
	}
	return timesRat(sum, big.NewRat(1, 2))
}

func opposite3(v impl.V3) impl.V3 {
	return impl.V3{X: q(-v.X.Num, v.X.Den), Y: q(-v.Y.Num, v.Y.Den), Z: q(-v.Z.Num, v.Z.Den)}
}

// checkFacing tells whether it is told.
func checkFacing(t *testing.T, name any, s impl.Solid, c tetras, u impl.V3) bool {
	t.Helper()
	want, fine := asQ(c.facing(point3Of(u)))
	for _, way := range []impl.V3{u, opposite3(u)} {
		if got, ok := impl.Facing(s, way); ok != fine || got != want {
			t.Fatal(name, "faces", way, "by", got, ok, "not", want, fine)
		}
	}
	return fine
}

func TestFacingOfSolids(t *testing.T) {
	t.Parallel()
	d := dice(260)
	ways := []impl.V3{v3(1, 0, 0), v3(0, 1, 0), v3(0, 0, 1), v3(1, 1, 0), v3(-1, 2, 3), v3(-2, 4, 6), {X: q(1, 2), Y: q(-2, 3), Z: q(5, 7)}, v3(0, 0, 0)}
	// By the coordinate that is left out: how many faces have there a number that is not 1 or -1.
	var steep [3]int
	for i, c := range solidCases() {
		for k, o := range []tetras{c.of, c.of.moved(aslant), c.of.moved(mapped3(aff3(2, 1, 0, 4, 1, 3, 0, 7, 0, 0, 1, 8)))} {
			s, ok := o.skin()
			if !ok {
				continue
			}
			list := []impl.V3{ways[(i+k)%3], ways[d.next()%uint64(len(ways))], ways[d.next()%uint64(len(ways))]}
			if len(s.Faces) > 0 {
				// A direction of a face, and one that lies in it.
				f := s.Faces[d.next()%uint64(len(s.Faces))]
				up := impl.V3{X: f.Plane.A, Y: f.Plane.B, Z: f.Plane.C}
				edges, _ := impl.EdgesOf(s)
				e := edges[d.next()%uint64(len(edges))]
				in, _ := point3Of(e.A).minus(point3Of(e.B)).place()
				list = append(list, up, in)
			}
			for _, u := range list {
				if !checkFacing(t, c.name, s, o, u) {
					t.Error(c.name, "faces", u, "by no Q")
				}
			}
			for _, f := range s.Faces {
				out := keptBy(f.Plane)[2]
				if n := normalOf(f.Plane)[out]; n.IsInt() && n.Num().IsInt64() && n.Num().Int64()*n.Num().Int64() == 1 {
					continue
				}
				steep[out]++
			}
		}
	}
	// X is left out where its number is the first alone, and that is 1 or -1.
	if steep[0] > 0 || steep[1] < 20 || steep[2] < 20 {
		t.Error("too few of a kind:", steep)
	}
}

func TestFacingByHand(t *testing.T) {
	box := bx(0, 0, 0, 1, 2, 3)
	stairs := cubes([3]int64{}, [3]int64{1, 0, 0}, [3]int64{0, 0, 1})
	hollow := cubes(less(block(3, 3, 3), [3]int64{1, 1, 1})...)
	behind := inRow(3, bx(0, 0, 0, 1, 1, 1), bx(0, 0, 0, 1, 1, 1))
	for _, c := range []struct {
		name string
		of   tetras
		u    impl.V3
		want impl.Q
	}{
		{"a box from X", box, v3(1, 0, 0), q(6, 1)},
		{"a box from Y", box, v3(0, 1, 0), q(3, 1)},
		{"a box from above", box, v3(0, 0, 1), q(2, 1)},
		{"a box from below", box, v3(0, 0, -1), q(2, 1)},
		{"a box, by a longer direction", box, v3(0, 0, 5), q(10, 1)},
		{"a box, by a shorter direction", box, impl.V3{X: q(0, 1), Y: q(0, 1), Z: q(-1, 3)}, q(2, 3)},
		{"a box from nowhere", box, v3(0, 0, 0), q(0, 1)},
		{"a box from a corner", box, v3(1, 1, 1), q(11, 1)},
		{"a box from another corner", box, v3(-1, 1, -1), q(11, 1)},
		{"a box from an edge", box, v3(1, -2, 0), q(12, 1)},
		{"stairs from above", stairs, v3(0, 0, 1), q(2, 1)},
		{"stairs from aslant", stairs, v3(1, 0, 1), q(4, 1)},
		{"a hollow: each face counts, seen or not", hollow, v3(0, 0, 1), q(10, 1)},
		{"parts that hide each other", behind, v3(1, 0, 0), q(2, 1)},
		{"parts beside each other", behind, v3(0, 1, 0), q(2, 1)},
		{"a wedge from its slant", wedge([3]int64{}), v3(-1, 1, 0), q(2, 1)},
		{"a wedge along its slant", wedge([3]int64{}), v3(1, 1, 0), q(1, 1)},
		{"a pyramid from above", pyramid(whole3(1, 1, 3)), v3(0, 0, 1), q(4, 1)},
		{"a pyramid from aside", pyramid(whole3(1, 1, 3)), v3(1, 0, 0), q(3, 1)},
		{"a pyramid that hangs over, from above", pyramid(whole3(9, 1, 1)), v3(0, 0, 1), q(11, 1)},
		{"a tetrahedron from its greatest face", tt(0, 0, 0, 3, 0, 0, 0, 3, 0, 0, 0, 2), v3(2, 2, 3), q(51, 2)},
	} {
		s := checkSkin(t, c.name, c.of)
		if got, ok := impl.Facing(s, c.u); !ok || got != c.want {
			t.Error(c.name, "has", got, ok, "not", c.want)
		}
		checkFacing(t, c.name, s, c.of, c.u)
		if got, ok := impl.Facing(impl.Solid{}, c.u); !ok || got != q(0, 1) {
			t.Error(c.name, "of nothing", got, ok)
		}
	}
}

// What is convex faces an axis as its corners do, dropped.
func TestFacingOfHulls(t *testing.T) {
	d := &spots{dice(270), 1}
	for range 60 {
		places := []impl.V3{d.place3(), d.place3(), d.place3(), d.place3(), d.place3(), d.place3()}
		s, ok := impl.Hull3(places)
		if !ok {
			continue
		}
		var flat []impl.V
		for _, p := range places {
			flat = append(flat, impl.V{X: p.X, Y: p.Y})
		}
		loop, _ := impl.Hull2(flat)
		area, _ := impl.Area2(region(loop))
		if got, ok := impl.Facing(s, v3(0, 0, 2)); !ok || got != area {
			t.Error(places, "face Z by", got, ok, "not", area)
		}
	}
}

func TestFacingAtTheLimit(t *testing.T) {
	const long, p = 1000000000, 10000000019
	one, none := q(1, 1), q(0, 1)
	plate := bx(0, 0, 0, long, long, 1)
	along := func(u impl.Q) impl.V3 { return impl.V3{X: none, Y: none, Z: u} }
	third := boxAt(big.NewRat(0, 1), big.NewRat(1, 2), big.NewRat(1, 2*p), big.NewRat(1, 2))
	for _, c := range []struct {
		name string
		of   tetras
		u    impl.V3
		fine bool
	}{
		{"10^18", plate, along(one), true},
		{"more than 10^18", plate, along(q(long+1, long)), false},
		{"more than 10^18, of two faces", plate, impl.V3{X: q(1, long), Y: none, Z: one}, false},
		{"10^18 by 7", plate, along(q(1, 7)), true},
		{"much more than 10^18", bx(-top, -top, -top, top, top, top), along(one), false},
		{"vast, by a short direction", bx(-top, -top, -top, top, top, top), along(q(1, top)), false},
		{"vast, from nowhere", bx(-top, -top, -top, top, top, top), along(none), true},
		{"a long direction", bx(0, 0, 0, 1, 1, 1), v3(top, 0, 0), true},
		{"two long directions", bx(0, 0, 0, 1, 1, 1), v3(top, 1, 0), false},
		{"1 by 10^18", bx(0, 0, 0, 1, 1, 1), along(q(1, top)), true},
		{"1 by many", third, v3(1, 0, 0), true},
		{"1 by too many", third, impl.V3{X: q(1, p), Y: none, Z: none}, false},
		{"1 by too many, of another face", third, impl.V3{X: none, Y: q(1, p), Z: none}, true},
	} {
		s, ok := c.of.skin()
		if !ok || !impl.SolidOk(s) {
			t.Fatal(c.name, "is no solid")
		}
		if checkFacing(t, c.name, s, c.of, c.u) != c.fine {
			t.Error(c.name, "is told:", !c.fine)
		}
	}
	good, bad := 0, 0
	for kind := range spotKinds {
		d := &spots{dice(280 + kind), kind}
		for range 60 {
			c := d.tetraBy(9, 3)
			if isFlat(c) {
				continue
			}
			if s, ok := c.skin(); ok && checkFacing(t, kind, s, c, d.place3()) {
				good++
			} else {
				bad++
			}
		}
	}
	if good < 60 || bad < 20 {
		t.Error("too few of a kind:", good, bad)
	}
}
