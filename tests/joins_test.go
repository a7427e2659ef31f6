package tests

import (
	"math/big"
	"slices"
	"testing"

	"loop.example/g00022/impl"
)

// Promise 13: joins of two.

// bx is a box from one place to another, told by tetrahedra.
func bx(a, b, c, d, e, f int64) tetras { return betweenPlaces(v3(a, b, c), v3(d, e, f)) }

func tt(n ...int64) tetras {
	return tetra(whole3(n[0], n[1], n[2]), whole3(n[3], n[4], n[5]), whole3(n[6], n[7], n[8]), whole3(n[9], n[10], n[11]))
}

// twice is all twice as great.
func twice(c tetras) tetras {
	return c.moved(func(p point3) point3 { return p.times(big.NewRat(2, 1)) })
}

type joinCase struct {
	name string
	a, b tetras
	// Whether there is inside in common, and how many faces OpAnd, OpOr, OpLess and OpXor have, told by hand; below 0 where
	// that is left to the rooms.
	overlap int64
	faces   [4]int
}

func joinCases() []joinCase {
	cube, mid := bx(0, 0, 0, 4, 4, 4), [3]int64{1, 1, 1}
	hollow := twice(cubes(less(block(3, 3, 3), mid)...))
	frame := twice(cubes(less(block(3, 3, 1), [3]int64{1, 1, 0})...))
	hook := twice(cubes([3]int64{0, 0, 0}, [3]int64{0, 0, 1}, [3]int64{0, 0, 2}, [3]int64{1, 0, 0}, [3]int64{1, 0, 2}))
	ell := twice(cubes([3]int64{}, [3]int64{1, 0, 0}, [3]int64{0, 1, 0}))
	unknown := [4]int{-1, -1, -1, -1}
	return []joinCase{
		{"nothing twice", tetras{}, tetras{}, 0, [4]int{0, 0, 0, 0}},
		{"with nothing", cube, tetras{}, 0, [4]int{0, 6, 6, 6}},
		{"nothing with one", tetras{}, hollow, 0, [4]int{0, 12, 0, 12}},
		{"with itself", hollow, hollow, 1, [4]int{12, 12, 0, 0}},
		{"apart", cube, bx(6, 1, 1, 7, 2, 2), 0, [4]int{0, 12, 6, 12}},
		{"apart, with planes in common", cube, bx(6, 0, 0, 7, 4, 4), 0, [4]int{0, 8, 6, 8}},
		{"a corner within", cube, bx(2, 2, 2, 6, 6, 6), 1, [4]int{6, 12, 9, 18}},
		{"an edge within", cube, bx(2, 2, 1, 6, 6, 3), 1, [4]int{6, 12, 10, 18}},
		{"a bar through", cube, bx(-1, 1, 1, 5, 3, 3), 1, [4]int{6, 12, 10, 18}},
		{"a cross of two bars", bx(0, 1, 1, 6, 2, 2), bx(2, 0, 0, 4, 3, 3), 1, [4]int{6, 12, 8, 18}},
		{"a cross of two bars of one height", bx(0, 1, 0, 3, 2, 1), bx(1, 0, 0, 2, 3, 1), 1, [4]int{6, 10, 8, 14}},
		{"a whole face", cube, bx(4, 0, 0, 6, 4, 4), 0, [4]int{0, 6, 6, 6}},
		{"a whole face of the lesser one", cube, bx(4, 1, 1, 6, 3, 3), 0, [4]int{0, 11, 6, 11}},
		{"a part of a face", cube, bx(4, 2, 2, 6, 6, 6), 0, [4]int{0, 12, 6, 12}},
		{"a part of a face, and an edge on one line", cube, bx(4, 0, 2, 6, 4, 6), 0, [4]int{0, 10, 6, 10}},
		{"an edge", cube, bx(4, 4, 0, 6, 6, 4), 0, [4]int{0, 10, 6, 10}},
		{"a part of an edge", cube, bx(4, 4, 1, 6, 6, 3), 0, [4]int{0, 12, 6, 12}},
		{"a part of an edge of each", cube, bx(4, 4, 2, 6, 6, 9), 0, [4]int{0, 12, 6, 12}},
		{"a corner", cube, bx(4, 4, 4, 6, 6, 6), 0, [4]int{0, 12, 6, 12}},
		{"a corner on a face", cube, tt(4, 2, 2, 6, 1, 1, 6, 3, 1, 6, 2, 4), 0, [4]int{0, 10, 6, 10}},
		{"a corner on an edge", cube, tt(4, 4, 2, 6, 5, 1, 5, 6, 1, 7, 6, 4), 0, [4]int{0, 10, 6, 10}},
		{"a corner on a corner", cube, tt(4, 4, 4, 6, 5, 5, 5, 6, 5, 5, 5, 7), 0, [4]int{0, 10, 6, 10}},
		{"an edge across an edge", cube, tt(5, 3, 3, 3, 5, 1, 6, 6, 2, 7, 5, 4), 0, [4]int{0, 10, 6, 10}},
		{"an edge across an edge, within", cube, tt(5, 3, 3, 3, 5, 1, 2, 2, 2, 3, 1, 1), 1, unknown},
		{"an edge in a face", cube, tt(4, 1, 1, 4, 3, 2, 6, 1, 3, 6, 3, 1), 0, [4]int{0, 10, 6, 10}},
		{"an edge in a face, and over its rim", cube, tt(4, 1, 1, 4, 7, 2, 6, 1, 3, 6, 3, 1), 0, [4]int{0, 10, 6, 10}},
		{"an edge in a face, from corner to corner", cube, tt(4, 0, 0, 4, 4, 4, 6, 1, 3, 6, 3, 1), 0, [4]int{0, 10, 6, 10}},
		{"an edge along an edge", cube, tt(4, 4, 1, 4, 4, 3, 6, 5, 1, 5, 6, 2), 0, [4]int{0, 10, 6, 10}},
		{"a face on a face, at a corner", cube, tt(4, 1, 1, 4, 3, 1, 4, 1, 4, 6, 2, 2), 0, [4]int{0, 9, 6, 9}},
		{"within", cube, bx(1, 1, 1, 3, 3, 3), 1, [4]int{6, 6, 12, 12}},
		{"within, with a part of a face in common", cube, bx(1, 1, 2, 3, 3, 4), 1, [4]int{6, 6, 11, 11}},
		{"within, with parts of two faces in common", cube, bx(1, 2, 2, 3, 4, 4), 1, [4]int{6, 6, 10, 10}},
		{"within, with parts of opposite faces in common", cube, bx(1, 1, 0, 3, 3, 4), 1, [4]int{6, 6, 10, 10}},
		{"within, with a corner of boxes in common", cube, bx(2, 2, 2, 4, 4, 4), 1, [4]int{6, 6, 9, 9}},
		{"within, from face to face", cube, bx(0, 0, 1, 4, 4, 3), 1, [4]int{6, 6, 8, 8}},
		{"within, with an edge in a face", cube, tt(1, 1, 4, 3, 2, 4, 2, 3, 2, 1, 2, 1), 1, [4]int{4, 6, 10, 10}},
		{"within, with a part of an edge in common", cube, tt(4, 4, 1, 4, 4, 3, 1, 2, 1, 2, 1, 3), 1, [4]int{4, 6, 10, 10}},
		{"within, with a corner on a face", cube, tt(2, 2, 4, 1, 1, 2, 3, 2, 2, 2, 3, 1), 1, [4]int{4, 6, 10, 10}},
		{"within, with a corner on an edge", cube, tt(4, 1, 4, 1, 1, 2, 3, 2, 2, 2, 3, 1), 1, [4]int{4, 6, 10, 10}},
		{"within, with a corner in common", cube, tt(4, 4, 4, 1, 1, 2, 3, 2, 2, 2, 3, 1), 1, [4]int{4, 6, 10, 10}},
		{"within, with all corners in common", cube, tt(0, 0, 0, 4, 4, 0, 4, 0, 4, 0, 4, 4), 1, [4]int{4, 6, 10, 10}},
		{"the one within the other", bx(1, 1, 1, 3, 3, 3), cube, 1, [4]int{6, 6, 0, 12}},
		{"faces that look to the same side", cube, bx(2, 2, -1, 6, 6, 4), 1, [4]int{6, 11, 8, 16}},
		{"faces that look to the same side, of bars", bx(0, 1, 0, 4, 2, 1), bx(1, 0, 0, 2, 4, 2), 1, [4]int{6, 11, 8, 16}},
		{"faces of one plane that look to opposite sides", bx(0, 0, 0, 2, 2, 2), bx(3, 0, 2, 5, 2, 4), 0, [4]int{0, 10, 6, 10}},
		{"two parts on opposite sides of a plane, and a bar", inRow(3, bx(0, 0, 0, 2, 2, 2), bx(0, 0, 2, 2, 2, 4)), bx(1, 1, 1, 4, 3, 3), 1, unknown},
		{"what fills a notch", ell, bx(2, 2, 0, 4, 4, 2), 0, [4]int{0, 6, 8, 6}},
		{"a corner where three had met", twice(cubes([3]int64{}, [3]int64{1, 0, 0}, [3]int64{0, 1, 0}, [3]int64{0, 0, 1})), bx(2, 2, 0, 4, 4, 2), 0, [4]int{0, 9, 9, 9}},
		{"what fills a way through", frame, bx(2, 2, 0, 4, 4, 2), 0, [4]int{0, 6, 10, 6}},
		{"a plug with a head", frame, bx(2, 2, 0, 4, 4, 5), 0, [4]int{0, 11, 10, 11}},
		{"in a way through", frame, bx(2, 2, -3, 3, 3, 5), 0, unknown},
		{"across a way through", frame, bx(1, 1, 1, 5, 5, 3), 1, unknown},
		{"in a hollow", hollow, twice(bx(1, 1, 1, 2, 2, 2)).moved(func(p point3) point3 { return p.times(big.NewRat(1, 4)).plus(whole3(2, 2, 2)) }), 0, unknown},
		{"free in a hollow", twice(hollow), bx(5, 5, 5, 7, 7, 7), 0, [4]int{0, 18, 12, 18}},
		{"what fills a hollow", hollow, bx(2, 2, 2, 4, 4, 4), 0, [4]int{0, 6, 12, 6}},
		{"what fills half a hollow", hollow, bx(2, 2, 2, 4, 4, 3), 0, [4]int{0, 12, 12, 12}},
		{"a corner of a hollow", hollow, tt(2, 2, 2, 3, 2, 3, 2, 3, 3, 3, 3, 2), 0, unknown},
		{"greater than a hollow", hollow, bx(1, 1, 1, 5, 5, 5), 1, [4]int{12, 6, 12, 18}},
		{"a way into a hollow", hollow, bx(2, 2, 3, 4, 4, 9), 1, unknown},
		{"a hollow and a hollow", hollow, hollow.moved(func(p point3) point3 { return p.plus(whole3(2, 2, 2)) }), 1, unknown},
		{"a hook through a way", hook, frame.moved(func(p point3) point3 { return p.plus(whole3(-1, -3, 2)) }), 1, unknown},
		{"hooks that hold each other", hook, hook.moved(func(p point3) point3 {
			return point3{minusRat(big.NewRat(5, 1), p[0]), p[2], plusRat(p[1], big.NewRat(2, 1))}
		}), 1, unknown},
		{"an ell on an ell", ell, ell.moved(func(p point3) point3 {
			return point3{p[1], minusRat(big.NewRat(4, 1), p[0]), plusRat(p[2], big.NewRat(1, 1))}
		}), 1, unknown},
		{"parts and a bar through both", inRow(5, bx(0, 0, 0, 3, 3, 3), bx(0, 0, 0, 3, 3, 3)), bx(-1, 1, 1, 9, 2, 2), 1, unknown},
		{"parts and what joins them", inRow(5, bx(0, 0, 0, 3, 3, 3), bx(0, 0, 0, 3, 3, 3)), bx(3, 0, 0, 5, 3, 3), 0, [4]int{0, 6, 8, 6}},
		{"what is left touches along an edge", cube, twice(cubes([3]int64{}, [3]int64{1, 1, 0}, [3]int64{0, 0, 1}, [3]int64{1, 1, 1})), 1, [4]int{10, 6, 10, 10}},
		{"what is left touches at a place", cube, twice(cubes(less(block(2, 2, 2), [3]int64{}, mid)...)), 1, unknown},
		{"what is left is two parts", cube, bx(1, -1, -1, 3, 5, 5), 1, [4]int{6, 12, 8, 18}},
		{"two hollows that come to touch", twice(cubes(less(block(4, 4, 4), mid)...)), bx(4, 4, 4, 6, 6, 6), 1, [4]int{6, 12, 18, 18}},
		{"a hollow that comes to touch a notch", hollow, bx(0, 0, 0, 2, 2, 2), 1, unknown},
		{"tetrahedra that cross", tt(0, 0, 0, 6, 1, 0, 1, 6, 1, 2, 2, 7), tt(5, 5, 5, -1, 2, 1, 3, -1, 2, 2, 3, -2), 1, unknown},
		{"a star", tt(0, 0, 0, 4, 4, 0, 4, 0, 4, 0, 4, 4), tt(4, 4, 4, 0, 0, 4, 0, 4, 0, 4, 0, 0), 1, [4]int{8, 8, 8, 16}},
		{"an edge through a face", tt(0, 0, 0, 6, 0, 0, 0, 6, 0, 1, 1, 5), tt(1, 1, -3, 2, 1, 9, 9, 3, 1, 8, 8, 2), 1, unknown},
		{"a spike through a cube", cube, tt(-3, 2, 2, 8, 1, 1, 8, 3, 2, 9, 2, 4), 1, unknown},
		{"a spike to the farther face", cube, tt(4, 2, 2, -3, 1, 1, -3, 3, 2, -3, 2, 3), 1, unknown},
		{"a pyramid in a cube", cube, twice(pyramid(fraction3(1, 1, 2, 1))), 1, [4]int{5, 6, 9, 9}},
		{"a pyramid through a cube", cube, twice(pyramid(whole3(1, 1, 3))), 1, unknown},
		{"pyramids, turned", pyramid(whole3(1, 1, 3)), pyramid(whole3(0, 2, 2)), 1, unknown},
		{"wedges of one cube", twice(wedge([3]int64{})), twice(wedge([3]int64{})).moved(func(p point3) point3 { return point3{p[1], p[0], p[2]} }), 0, [4]int{0, 6, 5, 6}},
		{"wedges that touch along a slant", twice(wedge([3]int64{})), twice(wedge([3]int64{0, 0, 1})).moved(func(p point3) point3 { return point3{p[1], p[0], p[2]} }), 0, unknown},
		{"a fan and a box", fan(), bx(1, -1, -1, 3, 1, 1), 1, unknown},
	}
}

// checkJoin holds all that is told of two solids against rooms; it counts what is refused.
func checkJoin(t *testing.T, name any, a, b tetras) (refused int) {
	t.Helper()
	one, ok1 := a.skin()
	two, ok2 := b.skin()
	if !ok1 || !ok2 || !areTold(one) || !areTold(two) {
		t.Fatal(name, "is no pair of solids")
	}
	all := roomsOf([]impl.Solid{one, two})
	inA, inB := all.within(a.has), all.within(b.has)
	overlap := int64(0)
	for i := range inA {
		if inA[i] && inB[i] {
			overlap = 1
		}
	}
	if impl.Overlap(one, two) != overlap || impl.Overlap(two, one) != overlap {
		t.Fatal(name, "overlap:", impl.Overlap(one, two), impl.Overlap(two, one), "not", overlap)
	}
	for _, turned := range []bool{false, true} {
		for _, op := range ops {
			in := make([]bool, len(inA))
			for i := range in {
				in[i] = isInside(op, inA[i], inB[i])
			}
			want, fine := all.skin(in)
			got, ok := impl.Join(one, two, op)
			if ok != fine || !sameSolids(got, want) {
				t.Fatal(name, "by", op, turned, "is", got, ok, "not", want, fine)
			}
			if !ok {
				refused++
			} else if !impl.SolidOk(got) {
				t.Fatal(name, "by", op, "is no solid:", got)
			}
		}
		one, two, inA, inB = two, one, inB, inA
	}
	checkVolumes(t, name, one, two)
	return refused
}

// checkVolumes asks for what follows of the volumes.
func checkVolumes(t *testing.T, name any, a, b impl.Solid) {
	t.Helper()
	var told [5]*big.Rat
	for _, op := range ops {
		s, ok := impl.Join(a, b, op)
		if !ok {
			return
		}
		told[op] = volumeOf(s)
	}
	and, or, less, xor := told[1], told[2], told[3], told[4]
	if plusRat(volumeOf(a), volumeOf(b)).Cmp(plusRat(and, or)) != 0 || minusRat(or, and).Cmp(xor) != 0 || minusRat(volumeOf(a), and).Cmp(less) != 0 {
		t.Fatal(name, "has volumes that don't add up:", told)
	}
}

func TestJoinsByHand(t *testing.T) {
	for _, c := range joinCases() {
		t.Run(c.name, func(t *testing.T) {
			t.Parallel()
			one, two := checkSkin(t, c.name, c.a), checkSkin(t, c.name, c.b)
			if got := impl.Overlap(one, two); got != c.overlap {
				t.Error("overlap", got, "not", c.overlap)
			}
			for i, op := range ops {
				if s, ok := impl.Join(one, two, op); !ok && c.faces[i] >= 0 || c.faces[i] >= 0 && len(s.Faces) != c.faces[i] {
					t.Error(op, "has", len(s.Faces), "faces", ok, "not", c.faces[i])
				}
			}
			checkJoin(t, c.name, c.a, c.b)
			a, b := c.a.moved(aslant), c.b.moved(aslant)
			if refused := checkJoin(t, c.name, a, b); refused > 6 {
				t.Error("aslant,", refused, "are refused")
			}
		})
	}
}

// Any of the tetrahedra of one mesh, and any others of it.
func TestJoinsOfMeshes(t *testing.T) {
	t.Parallel()
	d := dice(131)
	good, bad := 0, 0
	meshes := []tetras{cubes(block(2, 1, 1)...), cubes(block(2, 2, 1)...), cubes(block(2, 2, 2)...), cubes(block(3, 3, 1)...), cubes(block(3, 3, 3)...)}
	for n := range 300 {
		c := meshes[n%len(meshes)]
		// Whole cubes, or parts of cubes.
		size := 1
		if n%len(meshes) == 4 || d.next()%2 == 0 {
			size = 6
		}
		switch d.next() % 4 {
		case 0:
			c = c.moved(aslant)
		case 1:
			if len(c.list) <= 24 {
				c = d.jolted(c)
			}
		}
		choose := func() []bool {
			in, often := make([]bool, len(c.list)), 1+d.next()%5
			for k := range in {
				in[k] = k%size > 0 && in[k-k%size] || k%size == 0 && d.next()%6 < often
			}
			return in
		}
		inA, inB := choose(), choose()
		one, ok1 := c.some(func(k int) bool { return inA[k] }).skin()
		two, ok2 := c.some(func(k int) bool { return inB[k] }).skin()
		if !ok1 || !ok2 {
			continue
		}
		for _, op := range ops {
			want, fine := c.some(func(k int) bool { return isInside(op, inA[k], inB[k]) }).skin()
			got, ok := impl.Join(one, two, op)
			if ok != fine || ok && !sameSolids(got, want) || !ok && len(got.Faces) > 0 {
				t.Fatal(n, one, op, two, "is", got, ok, "not", want, fine)
			}
			if ok {
				good++
			} else {
				bad++
			}
		}
	}
	if good < 500 || bad < 10 {
		t.Error("too few of a kind:", good, bad)
	}
}

// anyTetra has corners with numbers up to a size.
func (d *dice) anyTetra(size int64) tetras {
	var own [4]point3
	for i := range own {
		own[i] = whole3(d.upTo(size), d.upTo(size), d.upTo(size))
	}
	return tetra(own[0], own[1], own[2], own[3])
}

// touching has some of the corners of another tetrahedron, or middles of its edges and faces, for its own.
func (d *dice) touching(c tetras, size int64) tetras {
	own, corners := d.anyTetra(size), c.corners(0)
	for i := range d.next() % 4 {
		from := d.next() % 4
		own.places[i] = middleOf(slices.Concat(corners[from:], corners[:from])[:1+d.next()%3]...)
	}
	return own
}

func isFlat(c tetras) bool { return c.volume6().Sign() == 0 }

// Tetrahedra in any place. Where the numbers are great, corners of what they make are no V3s, though their own are.
func TestJoinsOfTetrahedra(t *testing.T) {
	t.Parallel()
	d := dice(140)
	for _, c := range []struct {
		size       int64
		count      int
		mayRefused bool
	}{{2, 50, false}, {9, 30, false}, {1000, 20, false}, {500000, 40, true}} {
		pairs, refused := 0, 0
		for range c.count {
			a := d.anyTetra(c.size)
			b := d.touching(a, c.size)
			if isFlat(a) || isFlat(b) {
				continue
			}
			one, ok1 := a.skin()
			two, ok2 := b.skin()
			if !ok1 || !ok2 || !areTold(one) || !areTold(two) {
				continue
			}
			pairs++
			refused += checkJoin(t, c.size, a, b)
		}
		if pairs < c.count/3 || (refused > 8) != c.mayRefused {
			t.Error(c.size, "too few of a kind:", pairs, refused)
		}
	}
}

// A union tells an operation's solid, or that one on the way was refused.
type union struct {
	impl.Solid
	fine bool
}

func (a union) with(op int64, b union) union {
	if !a.fine || !b.fine {
		return union{}
	}
	s, ok := impl.Join(a.Solid, b.Solid, op)
	return union{s, ok}
}

// solidPool are solids that touch each other in many ways.
func solidPool() []tetras {
	return []tetras{
		bx(0, 0, 0, 2, 2, 2), bx(2, 0, 0, 4, 2, 2), bx(1, 1, 1, 3, 3, 3), bx(2, 2, 0, 4, 4, 2), bx(2, 2, 2, 4, 4, 4), bx(0, 0, 0, 4, 4, 1), bx(0, 0, 0, 1, 1, 4),
		bx(-1, 1, 1, 5, 2, 2), tt(0, 0, 0, 4, 4, 0, 4, 0, 4, 0, 4, 4), tt(4, 4, 4, 0, 0, 4, 0, 4, 0, 4, 0, 0), tt(2, 2, 2, 4, 1, 1, 3, 3, 0, 4, 4, 3),
		twice(wedge([3]int64{})), pyramid(whole3(1, 1, 3)), twice(cubes([3]int64{}, [3]int64{1, 1, 0})), cubes(less(block(3, 3, 3), [3]int64{1, 1, 1})...),
		cubes(less(block(3, 3, 1), [3]int64{1, 1, 0})...), tetras{},
	}
}

func TestLawsOfSolids(t *testing.T) {
	t.Parallel()
	pool, d := solidPool(), dice(150)
	var solids []union
	for _, c := range pool {
		solids = append(solids, union{checkSkin(t, "one of the pool", c), true})
	}
	whole := union{checkSkin(t, "all", bx(-2, -2, -2, 6, 6, 6)), true}
	held := 0
	pick := func() union { return solids[d.next()%uint64(len(solids))] }
	for range 90 {
		a, b, c := pick(), pick(), pick()
		laws := lawsOf(union{impl.Solid{}, true}, a, b, c)
		laws["a and b"], laws["a or b"] = [2]union{a.with(impl.OpAnd, b), b.with(impl.OpAnd, a)}, [2]union{a.with(impl.OpOr, b), b.with(impl.OpOr, a)}
		laws["a xor b"] = [2]union{a.with(impl.OpXor, b), b.with(impl.OpXor, a)}
		notA, notB := whole.with(impl.OpLess, a), whole.with(impl.OpLess, b)
		laws["not or"] = [2]union{whole.with(impl.OpLess, a.with(impl.OpOr, b)), notA.with(impl.OpAnd, notB)}
		laws["not and"] = [2]union{whole.with(impl.OpLess, a.with(impl.OpAnd, b)), notA.with(impl.OpOr, notB)}
		laws["not not"] = [2]union{whole.with(impl.OpLess, notA), a}
		laws["less as and not"] = [2]union{a.with(impl.OpLess, b), a.with(impl.OpAnd, notB)}
		laws["xor of nots"] = [2]union{a.with(impl.OpXor, b), notA.with(impl.OpXor, notB)}
		laws["a and not a"] = [2]union{a.with(impl.OpAnd, notA), {impl.Solid{}, true}}
		laws["a or not a"] = [2]union{a.with(impl.OpOr, notA), whole}
		for name, law := range laws {
			if !law[0].fine || !law[1].fine {
				continue
			}
			held++
			if !sameSolids(law[0].Solid, law[1].Solid) {
				t.Fatal(name, a, b, c, "tell", law[0].Solid, "and", law[1].Solid)
			}
		}
	}
	if held < 1500 {
		t.Error("too few laws were tried:", held)
	}
}

// Places that are on no skin are inside just when the operation says so.
func TestPlacesInJoins(t *testing.T) {
	t.Parallel()
	d, pool := dice(160), solidPool()
	var seen [2]int
	for range 60 {
		c, o := pool[d.next()%uint64(len(pool))], pool[d.next()%uint64(len(pool))]
		a, _ := c.skin()
		b, _ := o.skin()
		list := slices.Concat(d.samples(c, 12), d.samples(o, 12))
		for _, op := range ops {
			s, ok := impl.Join(a, b, op)
			if !ok {
				continue
			}
			for _, p := range list {
				v, ok := p.place()
				inA, inB := impl.Inside(a, v), impl.Inside(b, v)
				if !ok || inA == impl.WhereOn || inB == impl.WhereOn {
					continue
				}
				want := int64(impl.WhereOut)
				if isInside(op, inA == impl.WhereIn, inB == impl.WhereIn) {
					want = impl.WhereIn
				}
				seen[want/2]++
				if got := impl.Inside(s, v); got != want {
					t.Fatal(v, "is", got, "in", a, op, b)
				}
			}
		}
	}
	if min(seen[0], seen[1]) < 200 {
		t.Error("too few of a kind:", seen)
	}
}
