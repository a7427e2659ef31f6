package tests

import (
	"math/big"
	"slices"
	"strconv"
	"testing"

	"loop.example/g00022/impl"
)

// Promise 11: skins.

func less(cells [][3]int64, gone ...[3]int64) [][3]int64 {
	return slices.DeleteFunc(cells, func(c [3]int64) bool { return slices.Contains(gone, c) })
}

func shifted(x, y, z int64, cells [][3]int64) [][3]int64 {
	for i := range cells {
		cells[i] = [3]int64{cells[i][0] + x, cells[i][1] + y, cells[i][2] + z}
	}
	return cells
}

// fraction3 has halves, thirds and so on: each number by den.
func fraction3(x, y, z, den int64) point3 {
	return point3{big.NewRat(x, den), big.NewRat(y, den), big.NewRat(z, den)}
}

// aslant leaves no plane along an axis.
func aslant(p point3) point3 {
	return point3{
		plusRat(p.dot(fraction3(6, 3, 2, 6)), big.NewRat(1, 7)), p.dot(fraction3(-1, 5, 2, 5)), minusRat(p.dot(fraction3(2, -1, 7, 4)), big.NewRat(3, 1)),
	}
}

type solidCase struct {
	name string
	of   tetras
}

// wedge is the half of a cube in which X is not below Y.
func wedge(cell [3]int64) tetras {
	ways := orders(3)
	return cubes(cell).some(func(k int) bool { return slices.Index(ways[k], 0) < slices.Index(ways[k], 1) })
}

// pyramid stands on a square, with its top above one of the corners or anywhere else.
func pyramid(top point3) tetras {
	places := []point3{whole3(0, 0, 0), whole3(2, 0, 0), whole3(2, 2, 0), whole3(0, 2, 0), top}
	return tetras{places, [][4]int{{0, 1, 2, 4}, {0, 2, 3, 4}}}
}

func solidCases() []solidCase {
	mid, plate := [3]int64{1, 1, 1}, cubes(block(4, 4, 1)...)
	return []solidCase{
		{"nothing", tetras{}},
		{"a box", cubes(block(1, 2, 3)...)},
		{"a tetrahedron", tetra(whole3(0, 0, 0), whole3(3, 1, 0), whole3(1, 2, 1), fraction3(1, 1, 9, 2))},
		{"a wedge", wedge([3]int64{4, -1, 2})},
		{"a pyramid", pyramid(whole3(1, 1, 3))},
		{"a pyramid with an upright edge", pyramid(whole3(0, 2, 3))},
		{"a pyramid that hangs over", pyramid(whole3(9, 1, 1))},
		{"not convex", cubes([3]int64{}, [3]int64{1, 0, 0}, [3]int64{0, 1, 0})},
		{"corners all ways", cubes([3]int64{}, [3]int64{1, 0, 0}, [3]int64{0, 1, 0}, [3]int64{0, 0, 1})},
		{"a hook", cubes([3]int64{0, 0, 0}, [3]int64{0, 0, 1}, [3]int64{0, 0, 2}, [3]int64{1, 0, 0}, [3]int64{1, 0, 2})},
		{"a way through", cubes(less(block(3, 3, 1), [3]int64{1, 1, 0})...)},
		{"ways through in all directions", cubes(less(block(3, 3, 3), mid, [3]int64{0, 1, 1}, [3]int64{2, 1, 1}, [3]int64{1, 0, 1}, [3]int64{1, 2, 1}, [3]int64{1, 1, 0}, [3]int64{1, 1, 2})...)},
		{"a hollow", cubes(less(block(3, 3, 3), mid)...)},
		{"a hollow with a part in it", cubes(less(block(5, 5, 5), less(shifted(1, 1, 1, block(3, 3, 3)), [3]int64{2, 2, 2})...)...)},
		{"a hollow like a ring", cubes(less(block(5, 5, 3), less(shifted(1, 1, 1, block(3, 3, 1)), [3]int64{2, 2, 1})...)...)},
		{"a hollow that touches a notch at a place", cubes(less(block(3, 3, 3), mid, [3]int64{})...)},
		{"a hollow that touches a notch along an edge", cubes(less(block(3, 3, 3), mid, [3]int64{0, 0, 1})...)},
		{"two hollows that touch at a place", cubes(less(block(4, 4, 4), mid, [3]int64{2, 2, 2})...)},
		{"two parts", cubes([3]int64{}, [3]int64{3, 0, 0})},
		{"two parts one above the other", cubes([3]int64{}, [3]int64{0, 0, 3})},
		{"parts that touch at a place", cubes([3]int64{}, mid)},
		{"parts that touch along an edge", cubes([3]int64{}, [3]int64{1, 1, 0})},
		{"parts that touch along a level edge", cubes([3]int64{}, [3]int64{1, 0, 1})},
		{"parts that touch along a part of an edge", cubes([3]int64{}, [3]int64{1, 0, 0}, [3]int64{1, 1, 1})},
		{"parts that touch at a place of an edge", cubes(block(2, 1, 1)...).with(tetra(whole3(1, 1, 1), whole3(0, 2, 2), whole3(2, 2, 2), whole3(1, 2, 3)))},
		{"edges that cross at a place", cubes(block(2, 1, 1)...).with(tetra(whole3(1, 0, 2), whole3(1, 2, 0), whole3(0, 2, 2), whole3(2, 2, 2)))},
		{"a corner on a face", plate.with(tetra(whole3(1, 2, 1), whole3(1, 1, 3), whole3(3, 1, 2), whole3(2, 3, 2)))},
		{"an edge on a face", plate.with(tetra(whole3(1, 1, 1), whole3(2, 3, 1), whole3(1, 3, 2), whole3(3, 1, 2)))},
		{"an edge on a face, and over its rim", plate.with(tetra(whole3(1, 1, 1), whole3(7, 3, 1), whole3(1, 3, 2), whole3(3, 1, 2)))},
		{"a small box on a great one", cubes(append(block(3, 3, 1), mid)...)},
		{"a small box at the rim of a great one", cubes(append(block(3, 3, 1), [3]int64{1, 0, 1})...)},
		{"a face of pieces and holes", cubes(append(less(block(4, 3, 1), [3]int64{1, 1, 0}), [3]int64{3, 2, 1}, [3]int64{5, 0, 0})...)},
		{"a face in a hole of another one", cubes(less(block(5, 5, 1), less(shifted(1, 1, 0, block(3, 3, 1)), [3]int64{2, 2, 0})...)...)},
		{"faces that look to opposite sides of a plane", cubes([3]int64{}, [3]int64{2, 0, 1})},
		{"faces that look to opposite sides, many", cubes([3]int64{}, mid, [3]int64{1, 0, 2}, [3]int64{2, 0, 1}, [3]int64{2, 2, 0})},
		{"four cubes, all touching", cubes([3]int64{}, [3]int64{1, 1, 0}, [3]int64{1, 0, 1}, [3]int64{0, 1, 1})},
		{"wedges that touch along a slant", wedge([3]int64{}).with(wedge([3]int64{0, 0, 1}).moved(func(p point3) point3 { return point3{p[1], p[0], p[2]} }))},
		{"a fan of tetrahedra at a place", fan()},
	}
}

// fan are tetrahedra that touch at the origin alone.
func fan() tetras {
	one := tetra(whole3(0, 0, 0), whole3(5, 1, 1), whole3(5, 2, -1), whole3(4, -2, 1))
	up := one.moved(func(p point3) point3 { return point3{p[1], p[2], p[0]} })
	down := one.moved(func(p point3) point3 { return point3{p[2], p[1], minusRat(new(big.Rat), p[0])} })
	return one.with(up).with(down)
}

// checkSkin asks of a solid that is told by tetrahedra what the document says of all skins.
func checkSkin(t *testing.T, name any, c tetras) impl.Solid {
	t.Helper()
	s, ok := c.skin()
	if !ok || !impl.SolidOk(s) {
		t.Fatal(name, "is a solid:", s, ok)
	}
	if timesRat(volumeOf(s), big.NewRat(6, 1)).Cmp(c.volume6()) != 0 {
		t.Fatal(name, "has not its volume")
	}
	return s
}

func TestSkinsByHand(t *testing.T) {
	t.Parallel()
	for _, c := range solidCases() {
		checkSkin(t, c.name, c.of)
		if _, ok := c.of.moved(aslant).skin(); ok {
			checkSkin(t, c.name+" aslant", c.of.moved(aslant))
		}
	}
}

func copySolid(s impl.Solid) impl.Solid {
	s.Faces = slices.Clone(s.Faces)
	for i, f := range s.Faces {
		s.Faces[i].Region.Loops = deepLoops(f.Region.Loops)
	}
	return s
}

func sortFaces(s impl.Solid) impl.Solid {
	s = copySolid(s)
	slices.SortStableFunc(s.Faces, func(f, g impl.Face) int { return comparePlanes(f.Plane, g.Plane) })
	return s
}

// merged has the faces of all; no two of them are on one plane and look to one side.
func merged(list ...impl.Solid) impl.Solid {
	var all impl.Solid
	for _, s := range list {
		all.Faces = append(all.Faces, s.Faces...)
	}
	return sortFaces(all)
}

func allTurned(s impl.Solid) impl.Solid {
	s = copySolid(s)
	for i, f := range s.Faces {
		s.Faces[i].Plane = turnedRound(f.Plane)
	}
	return sortFaces(s)
}

func added(a impl.Q, num, den int64) impl.Q {
	f, _ := asQ(plusRat(rat(a), big.NewRat(num, den)))
	return f
}

// spoiltFace are ways to spoil a face.
func spoiltFace(f impl.Face) map[string]impl.Face {
	all := map[string]impl.Face{}
	put := func(name string, change func(*impl.Face)) {
		o := impl.Face{Plane: f.Plane, Region: impl.Region{Loops: deepLoops(f.Region.Loops)}}
		change(&o)
		all[name] = o
	}
	put("empty", func(o *impl.Face) { o.Region = impl.Region{} })
	put("turned round", func(o *impl.Face) { o.Plane = turnedRound(o.Plane) })
	put("moved ahead", func(o *impl.Face) { o.Plane.D = added(o.Plane.D, 1, 7) })
	put("moved far", func(o *impl.Face) { o.Plane.D = added(o.Plane.D, -99, 1) })
	put("tilted", func(o *impl.Face) { o.Plane.C = added(o.Plane.C, 1, 9) })
	put("told doubly", func(o *impl.Face) {
		double := func(a impl.Q) impl.Q {
			f, _ := asQ(timesRat(rat(a), big.NewRat(2, 1)))
			return f
		}
		o.Plane = impl.Plane{A: double(o.Plane.A), B: double(o.Plane.B), C: double(o.Plane.C), D: double(o.Plane.D)}
	})
	put("begun elsewhere", func(o *impl.Face) { o.Region.Loops[0] = begun(o.Region.Loops[0], 1) })
	put("gone round the other way", func(o *impl.Face) { o.Region.Loops[0] = begun(backward(o.Region.Loops[0]), len(o.Region.Loops[0])-1) })
	put("an empty loop", func(o *impl.Face) { o.Region.Loops = append(o.Region.Loops, nil) })
	put("a loop twice", func(o *impl.Face) { o.Region.Loops = append(o.Region.Loops, o.Region.Loops[0]) })
	put("a place too few", func(o *impl.Face) { o.Region.Loops[0] = o.Region.Loops[0][1:] })
	put("a place moved", func(o *impl.Face) { o.Region.Loops[0][1].X = added(o.Region.Loops[0][1].X, 1, 11) })
	put("a place too many", func(o *impl.Face) {
		loop := o.Region.Loops[0]
		x, _ := asQ(timesRat(plusRat(rat(loop[0].X), rat(loop[1].X)), big.NewRat(1, 2)))
		y, _ := asQ(timesRat(plusRat(rat(loop[0].Y), rat(loop[1].Y)), big.NewRat(1, 2)))
		o.Region.Loops[0] = slices.Insert(loop, 1, impl.V{X: x, Y: y})
	})
	put("shifted", func(o *impl.Face) {
		for _, loop := range o.Region.Loops {
			for k := range loop {
				loop[k].Y = added(loop[k].Y, 1, 13)
			}
		}
	})
	for k := range f.Region.Loops {
		put("without loop "+strconv.Itoa(k), func(o *impl.Face) { o.Region.Loops = slices.Delete(o.Region.Loops, k, k+1) })
	}
	return all
}

// halves cuts a face in two.
func halves(f impl.Face) []impl.Face {
	loops := pointLoops(f.Region.Loops)
	first, last := sortedPoints(slices.Concat(loops...))[0], slices.MaxFunc(slices.Concat(loops...), point.cmp)
	middle, _ := asQ(timesRat(plusRat(first.x, last.x), big.NewRat(1, 2)))
	low, ok1 := impl.Clip(f.Region, q(1, 1), q(0, 1), middle)
	high, ok2 := impl.Both(f.Region, low, impl.OpLess)
	if !ok1 || !ok2 || len(low.Loops) == 0 || len(high.Loops) == 0 {
		return nil
	}
	return []impl.Face{{Plane: f.Plane, Region: low}, {Plane: f.Plane, Region: high}}
}

// spoilt are skins of nothing, each made of a skin by one change.
func spoilt(s impl.Solid) map[string]impl.Solid {
	all := map[string]impl.Solid{"all turned round": allTurned(s)}
	for i, f := range s.Faces {
		put := func(name string, faces ...impl.Face) {
			name = "face " + strconv.Itoa(i) + " " + name
			o := copySolid(s)
			o.Faces = slices.Replace(o.Faces, i, i+1, faces...)
			// Where the order of planes is another one now, that is not to be the reason.
			all[name], all[name+", in order"] = o, sortFaces(o)
		}
		put("left out")
		put("twice", f, f)
		put("and itself turned round", f, impl.Face{Plane: turnedRound(f.Plane), Region: f.Region})
		put("and an empty one", f, impl.Face{Plane: f.Plane})
		if two := halves(f); two != nil {
			put("in two", two...)
			put("in two, one of them turned round", two[0], impl.Face{Plane: turnedRound(f.Plane), Region: two[1].Region})
			put("half", two[0])
		}
		for name, o := range spoiltFace(f) {
			put(name, o)
		}
		if i > 0 {
			o := copySolid(s)
			o.Faces[i-1], o.Faces[i] = o.Faces[i], o.Faces[i-1]
			all["face "+strconv.Itoa(i)+" in the wrong order"] = o
		}
	}
	return all
}

func identity() impl.Aff3 {
	return impl.Aff3{A: q(1, 1), B: q(0, 1), C: q(0, 1), D: q(0, 1), E: q(1, 1), F: q(0, 1), G: q(0, 1), H: q(0, 1), I: q(1, 1), X: q(0, 1), Y: q(0, 1), Z: q(0, 1)}
}

// checkNoSolid asks of what is not SolidOk, and of all functions that want it to be.
func checkNoSolid(t *testing.T, name any, s impl.Solid) {
	t.Helper()
	if impl.SolidOk(s) || impl.Inside(s, v3(0, 0, 0)) != impl.WhereBad {
		t.Error(name, "is no solid:", s)
	}
	edges, ok1 := impl.EdgesOf(s)
	corners, ok2 := impl.Corners(s)
	mapped, ok3 := impl.MapSolid(s, identity())
	lo, hi, ok4 := impl.Bounds(s)
	if ok1 || ok2 || ok3 || ok4 || len(edges)+len(corners)+len(mapped.Faces) > 0 || lo != (impl.V3{}) || hi != (impl.V3{}) {
		t.Error(name, "is no solid, but is told", edges, corners, mapped, lo, hi)
	}
}

func TestSpoiltSkins(t *testing.T) {
	t.Parallel()
	for _, c := range solidCases()[1:] {
		s := checkSkin(t, c.name, c.of)
		was := copySolid(s)
		for name, o := range spoilt(s) {
			if impl.SolidOk(o) {
				t.Error(c.name, name, "is no solid:", o)
			}
		}
		if !sameSolids(s, was) || !impl.SolidOk(s) {
			t.Error(c.name, "was written into")
		}
	}
	for _, c := range []solidCase{{"a box", cubes([3]int64{})}, {"a hollow", cubes(less(block(3, 3, 3), [3]int64{1, 1, 1})...)}, {"a pyramid", pyramid(whole3(1, 1, 3))}} {
		for name, o := range spoilt(checkSkin(t, c.name, c.of)) {
			checkNoSolid(t, c.name+" "+name, o)
		}
	}
}

// onOneAnother are two prisms below and above the plane Z = 0, with the faces there told as they are handed in.
func onOneAnother(t *testing.T, low, high []impl.V, front, back impl.Region) impl.Solid {
	t.Helper()
	below, ok1 := impl.Prism(region(low), q(-1, 1), q(0, 1))
	above, ok2 := impl.Prism(region(high), q(0, 1), q(1, 1))
	if !ok1 || !ok2 {
		t.Fatal("no prisms of", low, high)
	}
	s := merged(below, above)
	for i, f := range s.Faces {
		switch f.Plane {
		case pl(0, 0, 1, 0):
			s.Faces[i].Region = front
		case pl(0, 0, -1, 0):
			s.Faces[i].Region = back
		}
	}
	return s
}

// Two squares that overlap: told as two faces on one plane they are a skin only where what they have in common is left out.
func TestFacesThatOverlap(t *testing.T) {
	low, high := box(0, 0, 4, 4), box(3, 1, 7, 5)
	lowRest, highRest := lp(0, 0, 4, 0, 4, 1, 3, 1, 3, 4, 0, 4), lp(3, 4, 4, 4, 4, 1, 7, 1, 7, 5, 3, 5)
	checkNoSolid(t, "parts with a part of a face in common", onOneAnother(t, low, high, region(low), region(high)))
	checkNoSolid(t, "a bare face between two parts", onOneAnother(t, lowRest, highRest, region(low), region(high)))
	checkNoSolid(t, "a bare face that looks up", onOneAnother(t, lowRest, highRest, region(low), region(highRest)))
	checkNoSolid(t, "a bare face that looks down", onOneAnother(t, lowRest, highRest, region(lowRest), region(high)))
	for name, s := range map[string]impl.Solid{
		"one on the other":             onOneAnother(t, low, high, region(lowRest), region(highRest)),
		"two that touch along an edge": onOneAnother(t, lowRest, highRest, region(lowRest), region(highRest)),
	} {
		if !impl.SolidOk(s) {
			t.Error(name, "is a solid:", s)
		}
		checkEdges(t, name, s)
	}
}

func TestSkinsOfPartsThatClash(t *testing.T) {
	skin := func(c tetras) impl.Solid { return checkSkin(t, c, c) }
	cube := func(lo, hi int64) tetras {
		return cubes([3]int64{}).moved(func(p point3) point3 { return p.times(big.NewRat(hi-lo, 1)).plus(whole3(lo, lo, lo)) })
	}
	flat := impl.Face{Plane: pl(0, 0, 1, 0), Region: region(box(0, 0, 2, 2))}
	back := impl.Face{Plane: pl(0, 0, -1, 0), Region: region(box(0, 0, 2, 2))}
	low, high := tetra(whole3(0, 0, 0), whole3(3, 0, 0), whole3(0, 3, 0), whole3(1, 1, -2)), tetra(whole3(0, 0, 0), whole3(3, 0, 0), whole3(0, 3, 0), whole3(1, 1, 3))
	// With an edge in common, on the upper face of the cube from 0 to 4.
	below, above := tetra(whole3(1, 1, 4), whole3(3, 2, 4), whole3(2, 3, 2), whole3(1, 2, 1)), tetra(whole3(1, 1, 4), whole3(3, 2, 4), whole3(2, 3, 6), whole3(1, 2, 7))
	for name, s := range map[string]impl.Solid{
		"a hollow with a face on a face":               merged(skin(cube(0, 4)), allTurned(skin(tetra(whole3(1, 1, 4), whole3(3, 1, 4), whole3(1, 3, 4), whole3(1, 1, 2))))),
		"a hollow with an edge on a face that goes on": merged(skin(cube(0, 4)), allTurned(skin(tetra(whole3(1, 1, 4), whole3(9, 4, 4), whole3(2, 3, 2), whole3(1, 2, 1))))),
		"a face alone":                                  {Faces: []impl.Face{flat}},
		"a face and its back":                           {Faces: []impl.Face{back, flat}},
		"a face and its back, apart":                    {Faces: []impl.Face{back, {Plane: pl(0, 0, 1, 1), Region: flat.Region}}},
		"parts that overlap":                            merged(skin(cube(0, 3)), skin(cube(1, 4))),
		"a part in another one":                         merged(skin(cube(0, 3)), skin(cube(1, 2))),
		"a hollow in nothing":                           allTurned(skin(cube(1, 2))),
		"a hollow beside a part":                        merged(skin(cube(0, 3)), allTurned(skin(cube(4, 5)))),
		"a hollow that is greater":                      merged(skin(cube(1, 2)), allTurned(skin(cube(0, 3)))),
		"a hollow that sticks out":                      merged(skin(cube(0, 3)), allTurned(skin(cube(1, 4)))),
		"a hollow in a hollow":                          merged(skin(cube(0, 9)), allTurned(skin(cube(1, 8))), allTurned(skin(cube(2, 3)))),
		"a part and itself turned round":                merged(skin(cube(0, 3)), allTurned(skin(cube(0, 3)))),
		"parts that have a face in common":              merged(skin(low), skin(high)),
		"parts that have a part of a face in common":    merged(skin(low), skin(high.moved(func(p point3) point3 { return p.plus(fraction3(1, 1, 0, 2)) }))),
		"parts that cross like swords":                  merged(skin(tetra(whole3(0, 0, 0), whole3(9, 1, 0), whole3(9, 0, 1), whole3(9, 0, 0))), skin(tetra(whole3(4, -4, 0), whole3(4, 5, 1), whole3(5, 5, 0), whole3(4, 5, 0)))),
		"parts of which a corner sticks into the other": merged(skin(cube(0, 3)), skin(tetra(whole3(2, 2, 2), whole3(7, 1, 5), whole3(5, 7, 5), whole3(4, 5, 8)))),
	} {
		checkNoSolid(t, name, s)
	}
	for name, s := range map[string]impl.Solid{
		"a hollow":                                        merged(skin(cube(0, 3)), allTurned(skin(cube(1, 2)))),
		"a part in a hollow":                              merged(skin(cube(0, 9)), allTurned(skin(cube(1, 8))), skin(cube(2, 3))),
		"a hollow in such a part":                         merged(skin(cube(0, 9)), allTurned(skin(cube(1, 8))), skin(cube(2, 7)), allTurned(skin(cube(3, 4)))),
		"parts beside one another":                        merged(skin(cube(0, 3)), skin(cube(4, 5))),
		"a hollow with an edge on a face":                 merged(skin(cube(0, 4)), allTurned(skin(below))),
		"a hollow with a corner on a face":                merged(skin(cube(0, 4)), allTurned(skin(tetra(whole3(2, 2, 4), whole3(1, 1, 2), whole3(3, 2, 2), whole3(2, 3, 1))))),
		"a hollow with a corner on a corner":              merged(skin(cube(0, 4)), allTurned(skin(tetra(whole3(4, 4, 4), whole3(1, 1, 2), whole3(3, 2, 2), whole3(2, 3, 1))))),
		"a hollow with a corner on an edge":               merged(skin(cube(0, 4)), allTurned(skin(tetra(whole3(4, 1, 4), whole3(1, 1, 2), whole3(3, 2, 2), whole3(2, 3, 1))))),
		"a hollow from face to face":                      merged(skin(cube(0, 4)), allTurned(skin(tetra(whole3(4, 1, 3), whole3(0, 1, 2), whole3(3, 2, 0), whole3(2, 4, 1))))),
		"a hollow and a part with one edge on a face":     merged(skin(cube(0, 4)), allTurned(skin(below)), skin(above)),
		"a hollow and a part with edges that cross there": merged(skin(cube(0, 4)), allTurned(skin(below)), skin(above.moved(func(p point3) point3 { return point3{p[1], p[0], p[2]} }))),
		"two hollows with one edge on a face":             merged(skin(cube(0, 4)), allTurned(skin(below)), allTurned(skin(tetra(whole3(1, 1, 4), whole3(3, 2, 4), whole3(3, 1, 3), whole3(3, 1, 1))))),
	} {
		if !impl.SolidOk(s) {
			t.Error(name, "is a solid:", s)
		}
		checkEdges(t, name, s)
	}
}

// toldAs says of each facet whether it is told as a face, with the one tetrahedron beside it as inside, or the other one, or both.
const (
	toldNot = iota
	toldAt
	toldBeyond
	toldBoth
)

// canBe tells whether there is a set of the tetrahedra of which the facets told are the border: from outside on, what is
// told parts inside and outside, all else does not.
func (c tetras) canBe(facets []facet, told []int) bool {
	outside := len(c.list)
	in, known := make([]bool, outside+1), make([]bool, outside+1)
	known[outside] = true
	sidesOf := func(f facet) (int, int) {
		if f.beyond < 0 {
			return f.at, outside
		}
		return f.at, f.beyond
	}
	for more := true; more; {
		more = false
		for i, f := range facets {
			a, b := sidesOf(f)
			parts := told[i] == toldAt || told[i] == toldBeyond
			switch {
			case known[a] && !known[b]:
				in[b], known[b], more = in[a] != parts, true, true
			case known[b] && !known[a]:
				in[a], known[a], more = in[b] != parts, true, true
			}
		}
	}
	for i, f := range facets {
		a, b := sidesOf(f)
		if told[i] == toldBoth || (told[i] == toldAt) != (in[a] && !in[b]) || (told[i] == toldBeyond) != (in[b] && !in[a]) {
			return false
		}
	}
	return true
}

// toldSides are the triangles of what is told.
func (c tetras) toldSides(facets []facet, told []int) []side3 {
	var list []side3
	for i, f := range facets {
		s := c.sideOf(f, f.at)
		if told[i] == toldAt || told[i] == toldBoth {
			list = append(list, s)
		}
		if told[i] == toldBeyond || told[i] == toldBoth {
			list = append(list, side3{s[0], s[2], s[1]})
		}
	}
	return list
}

// jolted moves each place a little, so that no two sides are on one plane.
func (d *dice) jolted(c tetras) tetras {
	return c.moved(func(p point3) point3 { return p.plus(fraction3(d.upTo(9), d.upTo(9), d.upTo(9), 97)) })
}

// anyTold is what is told of some of the tetrahedra, with changes.
func (d *dice) anyTold(c tetras, facets []facet, changes int) []int {
	in, often := make([]bool, len(c.list)), 1+d.next()%3
	for k := range in {
		in[k] = d.next()%4 < often
	}
	told := make([]int, len(facets))
	for i, f := range facets {
		beyond := f.beyond >= 0 && in[f.beyond]
		switch {
		case in[f.at] && !beyond:
			told[i] = toldAt
		case beyond && !in[f.at]:
			told[i] = toldBeyond
		}
	}
	for range changes {
		told[d.next()%uint64(len(told))] = int(d.next() % 4)
	}
	return told
}

// Skins, and what is nearly one, of any facets of tetrahedra.
func TestSkinsMany(t *testing.T) {
	t.Parallel()
	d := dice(5)
	good, bad, many := 0, 0, 0
	meshes := []tetras{cubes(block(1, 1, 1)...), cubes(block(2, 1, 1)...), cubes(block(2, 2, 1)...), cubes(block(1, 1, 3)...), cubes(block(2, 2, 2)...)}
	for n := range 2500 {
		c := meshes[n%len(meshes)]
		switch d.next() % 3 {
		case 0:
			c = c.moved(aslant)
		case 1:
			if len(c.list) <= 12 || n%50 < 5 {
				c = d.jolted(c)
			}
		}
		facets := c.facets()
		told := d.anyTold(c, facets, int(d.next()%3))
		s, few := skinOf(c.toldSides(facets, told))
		want := few && c.canBe(facets, told)
		if impl.SolidOk(s) != want {
			t.Fatal(n, s, "is a solid:", !want)
		}
		switch {
		case want:
			good++
		case few:
			bad++
		default:
			many++
		}
	}
	if good < 500 || bad < 500 || many < 20 {
		t.Error("too few of a kind:", good, bad, many)
	}
}

// Facets of one tetrahedron and of two, each told in every way but both at once.
func TestSkinsOfAllFacets(t *testing.T) {
	t.Parallel()
	for _, c := range []tetras{tetra(whole3(0, 0, 0), whole3(3, 1, 0), whole3(1, 2, 1), whole3(1, 1, 4)), wedge([3]int64{}).some(func(k int) bool { return k < 2 })} {
		facets := c.facets()
		good, ways := 0, 1
		for range facets {
			ways *= toldBoth
		}
		for n := range ways {
			told, rest := make([]int, len(facets)), n
			for i := range told {
				told[i], rest = rest%toldBoth, rest/toldBoth
			}
			s, ok := skinOf(c.toldSides(facets, told))
			want := c.canBe(facets, told)
			if !ok || impl.SolidOk(s) != want {
				t.Fatal(s, "is a solid:", !want, told)
			}
			if want {
				good++
			}
		}
		if good != 1<<len(c.list) {
			t.Error("of", ways, "ways", good, "are solids")
		}
	}
}

// inRow are parts beside one another, each so far along X from the one ahead of it.
func inRow(step int64, parts ...tetras) tetras {
	var all tetras
	for i, c := range parts {
		all = all.with(c.moved(func(p point3) point3 { return p.plus(whole3(step*int64(i), 0, 0)) }))
	}
	return all
}

// pitted is a box with a pit in its top that comes to a place of an edge: there the top has a place, the side has none.
func pitted() impl.Solid {
	box := [8]point3{}
	for i := range box {
		box[i] = whole3(int64(i&1)*4, int64(i>>1&1)*4, int64(i>>2)*4)
	}
	pit := []point3{whole3(2, 0, 4), whole3(3, 1, 4), whole3(1, 1, 4), whole3(2, 1, 2)}
	s, _ := skinOf(slices.Concat(sidesOfBox(box), []side3{{pit[0], pit[1], pit[3]}, {pit[1], pit[2], pit[3]}, {pit[2], pit[0], pit[3]}}))
	for i, f := range s.Faces {
		if f.Plane == pl(0, 0, 1, 4) {
			s.Faces[i].Region = region(lp(0, 0, 2, 0, 1, 1, 3, 1, 2, 0, 4, 0, 4, 4, 0, 4))
		}
	}
	return s
}

// sidesOfBox wants the corners as their numbers' bits say: X, Y, Z from the lowest.
func sidesOfBox(c [8]point3) []side3 {
	var list []side3
	for _, r := range [6][4]int{{0, 2, 3, 1}, {4, 5, 7, 6}, {0, 1, 5, 4}, {2, 6, 7, 3}, {0, 4, 6, 2}, {1, 3, 7, 5}} {
		list = append(list, side3{c[r[0]], c[r[1]], c[r[2]]}, side3{c[r[0]], c[r[2]], c[r[3]]})
	}
	return list
}

func TestLimitsOfSkins(t *testing.T) {
	four := tetra(whole3(0, 0, 0), whole3(3, 1, 0), whole3(1, 2, 1), whole3(1, 1, 4))
	five := pyramid(whole3(1, 1, 3)).moved(aslant)
	six := cubes([3]int64{})
	ofOnes := func(n int, c tetras) []tetras { return slices.Repeat([]tetras{c}, n) }
	join := func(list ...[]tetras) tetras { return inRow(20, slices.Concat(list...)...) }
	for _, c := range []struct {
		name        string
		of          tetras
		faces, rims int
		fine        bool
	}{
		{"40 faces", join(ofOnes(10, four)), 40, 120, true},
		{"41 faces", join(ofOnes(9, four), ofOnes(1, five)), 41, 124, false},
		{"160 places", join(ofOnes(5, six), ofOnes(2, four), ofOnes(1, five)), 27, 160, true},
		{"164 places", join(ofOnes(5, six), ofOnes(1, four), ofOnes(2, five)), 28, 164, false},
	} {
		s, ok := c.of.skin()
		if len(s.Faces) != c.faces || countRims(s) != c.rims || ok != c.fine {
			t.Fatal(c.name, "has", len(s.Faces), countRims(s))
		}
		if c.fine && !impl.SolidOk(s) {
			t.Error(c.name, "is a solid")
		}
		if !c.fine {
			checkNoSolid(t, c.name, s)
		}
	}
	// Of 161 places: the one of the pit's corner is a place of the top alone.
	pit := pitted()
	if !impl.SolidOk(pit) || len(pit.Faces) != 9 || countRims(pit) != 37 {
		t.Error("a pit", pit, countRims(pit))
	}
	for _, fours := range []int{1, 2} {
		others := join(ofOnes(5-fours, six), ofOnes(fours, four), ofOnes(1, five)).moved(func(p point3) point3 { return p.plus(whole3(10, 50, 20)) })
		rest, _ := others.skin()
		s := merged(pit, rest)
		if want := 37 + 24*(5-fours) + 12*fours + 16; countRims(s) != want || len(s.Faces) > 40 || impl.SolidOk(s) != (want <= 160) {
			t.Error(countRims(s), "places, of which", want, "were meant, and", len(s.Faces), "faces")
		}
	}
}

func TestPlacesOfSkinsThatAreNone(t *testing.T) {
	// The top has a Z that is no Q; all faces there are dropped along Z.
	tall := func(n int64) impl.Solid {
		base := []point3{whole3(0, 0, 0), whole3(-n/2, n/2, 0), whole3(-n/2, -n/2, 0)}
		s, ok := tetra(base[0], base[1], base[2], point3{big.NewRat(-n, 1), new(big.Rat), timesRat(big.NewRat(n, 1), big.NewRat(2, 1))}).skin()
		if !ok || len(s.Faces) != 4 {
			t.Fatal("no tetrahedron", s)
		}
		return s
	}
	checkNoSolid(t, "too tall", tall(top))
	checkNoSolid(t, "a little too tall", tall(top/2+2))
	if !impl.SolidOk(tall(top / 2)) {
		t.Error("as tall as can be")
	}
}

func TestBrokenSkins(t *testing.T) {
	clean, _ := cubes(block(1, 2, 3)...).skin()
	for _, bad := range brokenFractions() {
		for i, f := range clean.Faces {
			for name, plane := range map[string]impl.Plane{
				"A": {A: bad, B: f.Plane.B, C: f.Plane.C, D: f.Plane.D}, "B": {A: f.Plane.A, B: bad, C: f.Plane.C, D: f.Plane.D},
				"C": {A: f.Plane.A, B: f.Plane.B, C: bad, D: f.Plane.D}, "D": {A: f.Plane.A, B: f.Plane.B, C: f.Plane.C, D: bad},
			} {
				s := copySolid(clean)
				s.Faces[i].Plane = plane
				checkNoSolid(t, name, s)
			}
			for k, v := range f.Region.Loops[0] {
				for _, o := range []impl.V{{X: bad, Y: v.Y}, {X: v.X, Y: bad}} {
					s := copySolid(clean)
					s.Faces[i].Region.Loops[0][k] = o
					checkNoSolid(t, o, s)
				}
			}
		}
	}
	for _, p := range brokenPlanes() {
		s := copySolid(clean)
		s.Faces[0].Plane = p
		checkNoSolid(t, p, s)
		checkNoSolid(t, p, impl.Solid{Faces: []impl.Face{{Plane: p, Region: clean.Faces[0].Region}}})
		checkNoSolid(t, p, impl.Solid{Faces: []impl.Face{{Plane: p}}})
	}
	for name, loops := range notOutlines() {
		s := copySolid(clean)
		s.Faces[2].Region.Loops = loops
		checkNoSolid(t, name, s)
	}
	for _, p := range []impl.Plane{pl(0, 0, 1, 99), pl(0, 0, 1, 1), pl(1, 1, 1, 1), pl(-1, 2, 0, 0), turnedRound(clean.Faces[3].Plane)} {
		for _, r := range []impl.Region{{}, {Loops: [][]impl.V{}}, region(nil), region([]impl.V{}, nil)} {
			empty := impl.Solid{Faces: []impl.Face{{Plane: p, Region: r}}}
			checkNoSolid(t, "an empty face alone", empty)
			checkNoSolid(t, "an empty face beside others", merged(clean, empty))
		}
	}
	checkNoSolid(t, "an empty face", impl.Solid{Faces: make([]impl.Face, 1)})
	checkNoSolid(t, "many empty faces", impl.Solid{Faces: make([]impl.Face, 1000)})
	if !impl.SolidOk(impl.Solid{}) || !impl.SolidOk(impl.Solid{Faces: []impl.Face{}}) {
		t.Error("the empty solid is one")
	}
}
