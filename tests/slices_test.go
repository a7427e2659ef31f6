package tests

import (
	"math/big"
	"slices"
	"testing"

	"loop.example/g00022/impl"
)

// Promise 15: slices, and promise 13 as seen in them.

// flatPart is what a tetrahedron has just below a height, or just above it: where its edges come to that height from there.
// It is nothing where that has no area.
func flatPart(t [4]point3, z *big.Rat, sign int) []point {
	var places []point
	for _, a := range t {
		for _, b := range t {
			one, two := minusRat(a[2], z), minusRat(b[2], z)
			if one.Sign() != sign || two.Sign() == sign {
				continue
			}
			p := a.plus(b.minus(a).times(new(big.Rat).Quo(one, minusRat(one, two))))
			places = append(places, point{p[0], p[1]})
		}
	}
	return roundLeft(sortedPoints(places))
}

// flatEdges are the edges of what all tetrahedra have there, without those between two of them.
func (c tetras) flatEdges(z *big.Rat, sign int) []pointEdge {
	var edges []pointEdge
	for k := range c.list {
		for _, e := range edgesOf([][]point{flatPart(c.corners(k), z, sign)}) {
			back := slices.IndexFunc(edges, func(o pointEdge) bool { return o.a.cmp(e.b) == 0 && o.b.cmp(e.a) == 0 })
			if back >= 0 {
				edges = slices.Delete(edges, back, back+1)
			} else {
				edges = append(edges, e)
			}
		}
	}
	return edges
}

func (c tetras) wantSlice(z impl.Q, sign int) ([][]impl.V, bool) {
	edges := c.flatEdges(rat(z), sign)
	return wantOutline(edges, func(p point) bool { return isOddly(p, edges) })
}

// heightsOf are the heights of all corners, those half way between, and one below and one above all.
func heightsOf(s ...impl.Solid) []impl.Q {
	var all []*big.Rat
	for _, o := range s {
		corners, _ := impl.Corners(o)
		for _, v := range corners {
			all = append(all, rat(v.Z))
		}
	}
	if len(all) == 0 {
		return []impl.Q{q(0, 1), q(-7, 2)}
	}
	slices.SortFunc(all, (*big.Rat).Cmp)
	all = slices.CompactFunc(all, func(a, b *big.Rat) bool { return a.Cmp(b) == 0 })
	var list []impl.Q
	put := func(r *big.Rat) {
		if z, ok := asQ(r); ok {
			list = append(list, z)
		}
	}
	put(minusRat(all[0], big.NewRat(1, 1)))
	for i, r := range all {
		if i > 0 {
			put(timesRat(plusRat(all[i-1], r), big.NewRat(1, 2)))
		}
		put(r)
	}
	put(plusRat(all[len(all)-1], big.NewRat(1, 1)))
	return list
}

func isNoSlice(low, high impl.Region, ok bool) bool {
	return !ok && low.Loops == nil && high.Loops == nil
}

// checkSlice tells whether there is one.
func checkSlice(t *testing.T, name any, s impl.Solid, c tetras, z impl.Q) bool {
	t.Helper()
	below, fine1 := c.wantSlice(z, -1)
	above, fine2 := c.wantSlice(z, 1)
	low, high, ok := impl.SliceAt(s, z)
	if !fine1 || !fine2 {
		if !isNoSlice(low, high, ok) {
			t.Fatal(name, "at", z, "is", low, high, ok, "not", below, fine1, above, fine2)
		}
		return false
	}
	if !ok || !sameLoops(low.Loops, below) || !sameLoops(high.Loops, above) {
		t.Fatal(name, "at", z, "is", low, high, ok, "not", below, above)
	}
	if !impl.RegionOk(low) || !impl.RegionOk(high) {
		t.Fatal(name, "at", z, "is", low, high, "which are no outlines")
	}
	return true
}

type sliceCase struct {
	name      string
	of        tetras
	z         impl.Q
	low, high [][]impl.V
}

// halfLoop has fractions with a denominator 2.
func halfLoop(xy ...int64) []impl.V {
	var loop []impl.V
	for i := 0; i < len(xy); i += 2 {
		x, _ := impl.QOf(xy[i], 2)
		y, _ := impl.QOf(xy[i+1], 2)
		loop = append(loop, impl.V{X: x, Y: y})
	}
	return loop
}

func sliceCases() []sliceCase {
	hole := func(left, low, right, high int64) []impl.V { return begun(backward(box(left, low, right, high)), 3) }
	brick := bx(0, 0, 0, 4, 3, 2)
	hollow := cubes(less(block(3, 3, 3), [3]int64{1, 1, 1})...)
	island := cubes(less(block(5, 5, 5), less(shifted(1, 1, 1, block(3, 3, 3)), [3]int64{2, 2, 2})...)...)
	stair := cubes([3]int64{}, [3]int64{1, 0, 0}, [3]int64{1, 0, 1}, [3]int64{2, 0, 1})
	roof := tetras{
		[]point3{whole3(0, 0, 0), whole3(4, 0, 0), whole3(4, 4, 0), whole3(0, 4, 0), whole3(0, 2, 2), whole3(4, 2, 2)},
		[][4]int{{0, 1, 3, 4}, {1, 2, 3, 5}, {1, 3, 4, 5}},
	}
	turnedOver := func(c tetras) tetras {
		return c.moved(func(p point3) point3 { return point3{p[0], p[1], minusRat(new(big.Rat), p[2])} })
	}
	crossed := tt(0, 2, 2, 4, 2, 2, 2, 0, -2, 2, 4, -2)
	all := [3]int64{1, 1, 1}
	return []sliceCase{
		{"nothing", tetras{}, q(0, 1), nil, nil},
		{"a box, inside", brick, q(1, 3), lps(box(0, 0, 4, 3)), lps(box(0, 0, 4, 3))},
		{"a box, at its floor", brick, q(0, 1), nil, lps(box(0, 0, 4, 3))},
		{"a box, at its ceiling", brick, q(2, 1), lps(box(0, 0, 4, 3)), nil},
		{"a box, just below", brick, q(-1, top), nil, nil},
		{"a box, above", brick, q(5, 2), nil, nil},
		{"a face that looks up", cubes(append(block(3, 3, 1), all)...), q(1, 1), lps(box(0, 0, 3, 3)), lps(box(1, 1, 2, 2))},
		{"a face that looks down", turnedOver(cubes(append(block(3, 3, 1), all)...)), q(-1, 1), lps(box(1, 1, 2, 2)), lps(box(0, 0, 3, 3))},
		{"one that looks up and one that looks down", stair, q(1, 1), lps(box(0, 0, 2, 1)), lps(box(1, 0, 3, 1))},
		{"up and down, apart", cubes([3]int64{}, [3]int64{2, 0, 1}), q(1, 1), lps(box(0, 0, 1, 1)), lps(box(2, 0, 3, 1))},
		{"up and down, touching at a place", cubes([3]int64{}, all), q(1, 1), lps(box(0, 0, 1, 1)), lps(box(1, 1, 2, 2))},
		{"up and down, touching along an edge", cubes([3]int64{}, [3]int64{1, 0, 1}), q(1, 1), lps(box(0, 0, 1, 1)), lps(box(1, 0, 2, 1))},
		{"all of a face on all of another", bx(0, 0, 0, 2, 2, 4), q(2, 1), lps(box(0, 0, 2, 2)), lps(box(0, 0, 2, 2))},
		{"four cubes, all touching", cubes([3]int64{}, [3]int64{1, 1, 0}, [3]int64{1, 0, 1}, [3]int64{0, 1, 1}), q(1, 1),
			lps(box(0, 0, 1, 1), box(1, 1, 2, 2)), lps(box(0, 1, 1, 2), box(1, 0, 2, 1))},
		{"touching along an upright edge", cubes([3]int64{}, [3]int64{1, 1, 0}), q(1, 2), lps(box(0, 0, 1, 1), box(1, 1, 2, 2)), lps(box(0, 0, 1, 1), box(1, 1, 2, 2))},
		{"a pyramid, half way", pyramid(whole3(1, 1, 3)), q(3, 2), lps(halfLoop(1, 1, 3, 1, 3, 3, 1, 3)), lps(halfLoop(1, 1, 3, 1, 3, 3, 1, 3))},
		{"a pyramid, at a fraction", pyramid(whole3(1, 1, 3)), q(9, 4), lps([]impl.V{{X: q(3, 4), Y: q(3, 4)}, {X: q(5, 4), Y: q(3, 4)}, {X: q(5, 4), Y: q(5, 4)}, {X: q(3, 4), Y: q(5, 4)}}),
			lps([]impl.V{{X: q(3, 4), Y: q(3, 4)}, {X: q(5, 4), Y: q(3, 4)}, {X: q(5, 4), Y: q(5, 4)}, {X: q(3, 4), Y: q(5, 4)}})},
		{"a pyramid, at its top", pyramid(whole3(1, 1, 3)), q(3, 1), nil, nil},
		{"a pyramid on its top", turnedOver(pyramid(whole3(1, 1, 3))), q(-3, 1), nil, nil},
		{"a roof, along its ridge", roof, q(2, 1), nil, nil},
		{"a roof, half way", roof, q(1, 1), lps(box(0, 1, 4, 3)), lps(box(0, 1, 4, 3))},
		{"a roof turned over, along its ridge", turnedOver(roof), q(-2, 1), nil, nil},
		{"two edges across, half way", crossed, q(0, 1), lps(box(1, 1, 3, 3)), lps(box(1, 1, 3, 3))},
		{"two edges across, at the lower one", crossed, q(-2, 1), nil, nil},
		{"a hollow, inside", hollow, q(3, 2), lps(box(0, 0, 3, 3), hole(1, 1, 2, 2)), lps(box(0, 0, 3, 3), hole(1, 1, 2, 2))},
		{"a hollow, at its floor", hollow, q(1, 1), lps(box(0, 0, 3, 3)), lps(box(0, 0, 3, 3), hole(1, 1, 2, 2))},
		{"a hollow, at its ceiling", hollow, q(2, 1), lps(box(0, 0, 3, 3), hole(1, 1, 2, 2)), lps(box(0, 0, 3, 3))},
		{"a part in a hollow", island, q(5, 2), lps(box(0, 0, 5, 5), hole(1, 1, 4, 4), box(2, 2, 3, 3)), lps(box(0, 0, 5, 5), hole(1, 1, 4, 4), box(2, 2, 3, 3))},
		{"a part in a hollow, at its floor", island, q(2, 1), lps(box(0, 0, 5, 5), hole(1, 1, 4, 4)), lps(box(0, 0, 5, 5), hole(1, 1, 4, 4), box(2, 2, 3, 3))},
		{"a way through", cubes(less(block(3, 3, 1), [3]int64{1, 1, 0})...), q(0, 1), nil, lps(box(0, 0, 3, 3), hole(1, 1, 2, 2))},
		{"two hollows that touch at a place", cubes(less(block(4, 4, 4), all, [3]int64{2, 2, 2})...), q(2, 1), lps(box(0, 0, 4, 4), hole(1, 1, 2, 2)), lps(box(0, 0, 4, 4), hole(2, 2, 3, 3))},
		{"two hollows that touch along an edge", cubes(less(block(4, 4, 3), all, [3]int64{2, 2, 1})...), q(3, 2),
			lps(box(0, 0, 4, 4), lp(1, 1, 1, 2, 2, 2, 2, 3, 3, 3, 3, 2, 2, 2, 2, 1)), lps(box(0, 0, 4, 4), lp(1, 1, 1, 2, 2, 2, 2, 3, 3, 3, 3, 2, 2, 2, 2, 1))},
		{"a notch and a hollow that touch along an edge", cubes(less(block(3, 3, 3), all, [3]int64{0, 0, 1})...), q(3, 2),
			lps(lp(0, 1, 1, 1, 1, 2, 2, 2, 2, 1, 1, 1, 1, 0, 3, 0, 3, 3, 0, 3)), lps(lp(0, 1, 1, 1, 1, 2, 2, 2, 2, 1, 1, 1, 1, 0, 3, 0, 3, 3, 0, 3))},
		{"a corner on a face", cubes(block(4, 4, 1)...).with(tt(1, 2, 1, 1, 1, 3, 3, 1, 3, 2, 3, 3)), q(1, 1), lps(box(0, 0, 4, 4)), nil},
		{"an edge on a face", cubes(block(4, 4, 1)...).with(tt(1, 1, 1, 3, 3, 1, 1, 3, 3, 3, 1, 3)), q(1, 1), lps(box(0, 0, 4, 4)), nil},
		{"a part on an edge of a face", bx(0, 0, 0, 4, 4, 1).with(tt(4, 1, 1, 4, 3, 1, 6, 2, 1, 5, 2, 3)), q(1, 1), lps(box(0, 0, 4, 4)), lps(lp(4, 1, 6, 2, 4, 3))},
		{"far numbers", bx(-top, -top, -top, top, top, top), q(top, 1), lps(box(-top, -top, top, top)), nil},
		{"far numbers, half way", bx(-top, -top, -top, top, top, top), q(1, top), lps(box(-top, -top, top, top)), lps(box(-top, -top, top, top))},
	}
}

func TestSlicesByHand(t *testing.T) {
	for _, c := range sliceCases() {
		s, ok := c.of.skin()
		if !ok {
			t.Fatal(c.name, "is no solid")
		}
		low, high, ok := impl.SliceAt(s, c.z)
		if !ok || !sameLoops(low.Loops, c.low) || !sameLoops(high.Loops, c.high) {
			t.Error(c.name, low, high, ok, "not", c.low, c.high)
		}
		checkSlice(t, c.name, s, c.of, c.z)
	}
	// The top comes to a place of an edge: there the region below touches itself.
	pinch := lps(lp(0, 0, 2, 0, 1, 1, 3, 1, 2, 0, 4, 0, 4, 4, 0, 4))
	if low, high, ok := impl.SliceAt(pitted(), q(4, 1)); !ok || !sameLoops(low.Loops, pinch) || len(high.Loops) != 0 {
		t.Error("a pit that comes to an edge", low, high, ok)
	}
	if low, high, ok := impl.SliceAt(pitted(), q(2, 1)); !ok || !sameLoops(low.Loops, lps(box(0, 0, 4, 4))) || !sameLoops(high.Loops, low.Loops) {
		t.Error("a pit at its deepest place", low, high, ok)
	}
}

// Solids of all kinds, at all heights of corners and between, upright and aslant.
func TestSlicesAtAllHeights(t *testing.T) {
	for _, c := range solidCases() {
		t.Run(c.name, func(t *testing.T) {
			t.Parallel()
			for _, to := range []func(point3) point3{func(p point3) point3 { return p }, aslant, func(p point3) point3 { return point3{p[2], p[0], p[1]} }} {
				of := c.of.moved(to)
				s, ok := of.skin()
				if !ok {
					continue
				}
				// Of many tetrahedra not all heights are tried, since they take their time.
				list := heightsOf(s)
				for i := 0; i < len(list); i += 1 + len(of.list)/60 {
					if !checkSlice(t, c.name, s, of, list[i]) {
						t.Error(c.name, "is refused at", list[i])
					}
				}
			}
		})
	}
}

// Any tetrahedra of a mesh.
func TestSlicesOfMeshes(t *testing.T) {
	t.Parallel()
	d, seen := dice(151), 0
	meshes := []tetras{cubes(block(2, 1, 1)...), cubes(block(1, 1, 2)...), cubes(block(2, 2, 1)...), cubes(block(2, 2, 2)...), cubes(block(3, 2, 2)...)}
	for n := range 60 {
		c, often := meshes[n%len(meshes)], 1+d.next()%5
		if n%2 == 0 {
			c = c.moved(aslant)
		}
		c = c.some(func(int) bool { return d.next()%6 < often })
		s, ok := c.skin()
		if !ok {
			continue
		}
		list := heightsOf(s)
		for range 4 {
			checkSlice(t, n, s, c, list[d.next()%uint64(len(list))])
			seen++
		}
	}
	if seen < 150 {
		t.Error("too few were tried:", seen)
	}
}

// Great numbers, and heights of great denominators, where places of a slice are often no Vs.
func TestSlicesOfTetrahedra(t *testing.T) {
	t.Parallel()
	d := dice(152)
	for _, c := range []struct {
		size, den, parts int64
		refused          bool
	}{{4, 1, 2, false}, {9, 4, 3, false}, {100000, 1, 7, false}, {100000, 5, 999999999989, true}, {30, 1, 3000000000000013, true}} {
		good, bad := 0, 0
		for range 40 {
			one := d.tetraBy(c.size, c.den)
			if isFlat(one) {
				continue
			}
			s, ok := one.skin()
			if !ok || !impl.SolidOk(s) {
				continue
			}
			list := heightsOf(s)
			share := big.NewRat(1+int64(d.next()%uint64(c.parts)), c.parts)
			if z, ok := asQ(plusRat(rat(list[0]), timesRat(share, minusRat(rat(list[len(list)-1]), rat(list[0]))))); ok {
				list = append(list, z)
			}
			for _, z := range list {
				if checkSlice(t, c, s, one, z) {
					good++
				} else {
					bad++
				}
			}
		}
		if good < 100 || (bad > 10) != c.refused {
			t.Error(c, "too few of a kind:", good, bad)
		}
	}
}

// Of a prism all slices are its region.
func TestSlicesOfPrisms(t *testing.T) {
	t.Parallel()
	seen := 0
	for kind := range 2 {
		d := &shapes{spots{dice(153 + kind), kind}}
		for range 60 {
			r, ok1 := impl.MakeRegion(d.loops())
			lo, hi := d.coord(), d.coord()
			if impl.QCmp(lo, hi) > 0 {
				lo, hi = hi, lo
			}
			s, ok2 := impl.Prism(r, lo, hi)
			if !ok1 || !ok2 || len(r.Loops) == 0 {
				continue
			}
			seen++
			sum, _ := impl.QAdd(lo, hi)
			half, _ := impl.QMul(sum, q(1, 2))
			for _, c := range []struct {
				z         impl.Q
				low, high [][]impl.V
			}{{lo, nil, r.Loops}, {half, r.Loops, r.Loops}, {hi, r.Loops, nil}} {
				if low, high, ok := impl.SliceAt(s, c.z); !ok || !sameLoops(low.Loops, c.low) || !sameLoops(high.Loops, c.high) {
					t.Fatal(r, lo, hi, "at", c.z, "is", low, high, ok)
				}
			}
		}
	}
	if seen < 40 {
		t.Error("too few prisms:", seen)
	}
}

// The area between two corners' heights goes by a square of the height, so that three slices tell the volume between.
func TestSlicesAddUpToVolumes(t *testing.T) {
	t.Parallel()
	for _, c := range solidCases() {
		for _, to := range []func(point3) point3{aslant, func(p point3) point3 { return point3{p[1], p[2], p[0]} }} {
			s, ok := c.of.moved(to).skin()
			if !ok {
				continue
			}
			sum, list := new(big.Rat), heightsOf(s)
			var lows, highs []impl.Region
			for _, z := range list {
				low, high, ok := impl.SliceAt(s, z)
				if !ok {
					t.Fatal(c.name, "is refused at", z)
				}
				lows, highs = append(lows, low), append(highs, high)
			}
			// Ahead of the first corner's height, and behind the last, one more is told.
			for i := 3; i+1 < len(list); i += 2 {
				if !sameLoops(lows[i-1].Loops, highs[i-1].Loops) {
					t.Fatal(c.name, "changes between corners at", list[i-1], lows[i-1], highs[i-1])
				}
				area := plusRat(plusRat(areaOf(highs[i-2]), timesRat(big.NewRat(4, 1), areaOf(lows[i-1]))), areaOf(lows[i]))
				sum = plusRat(sum, timesRat(area, timesRat(minusRat(rat(list[i]), rat(list[i-2])), big.NewRat(1, 12))))
			}
			if sum.Cmp(volumeOf(s)) != 0 {
				t.Error(c.name, "has slices of a volume", sum, "not", volumeOf(s))
			}
		}
	}
}
