package tests

import (
	"math/big"
	"slices"
	"testing"

	"loop.example/g00022/impl"
)

// Promise 6, what is cut by lines.

// heightOf is a X + b Y - c.
func heightOf(p point, a, b, c *big.Rat) *big.Rat {
	return minusRat(plusRat(timesRat(a, p.x), timesRat(b, p.y)), c)
}

// lineThrough is a piece of the line a X + b Y = c that goes far beyond the places.
func lineThrough(a, b, c *big.Rat, places []point) pointEdge {
	size := plusRat(timesRat(a, a), timesRat(b, b))
	k := new(big.Rat).Quo(c, size)
	on := point{timesRat(a, k), timesRat(b, k)}
	far := big.NewRat(1, 1)
	for _, p := range places {
		far = plusRat(far, plusRat(square(on, p), big.NewRat(1, 1)))
	}
	// A whole number of steps of the length of a, b is farther than the sum of squares.
	far = new(big.Rat).Quo(far, size)
	far = plusRat(far, timesRat(far, size))
	return pointEdge{
		point{plusRat(on.x, timesRat(b, far)), minusRat(on.y, timesRat(a, far))},
		point{minusRat(on.x, timesRat(b, far)), plusRat(on.y, timesRat(a, far))},
	}
}

func wantClip(r impl.Region, a, b, c *big.Rat) ([][]impl.V, bool) {
	loops := pointLoops(r.Loops)
	edges := edgesOf(loops)
	line := lineThrough(a, b, c, slices.Concat(loops...))
	return wantOutline(append(slices.Clone(edges), line), func(p point) bool {
		return isOddly(p, edges) && heightOf(p, a, b, c).Sign() < 0
	})
}

// checkClip looks at both sides of the line.
func checkClip(t *testing.T, r impl.Region, a, b, c impl.Q) bool {
	t.Helper()
	want, fine := wantClip(r, rat(a), rat(b), rat(c))
	got, ok := impl.Clip(r, a, b, c)
	if ok != fine || !sameLoops(got.Loops, want) {
		t.Fatal(r, "clipped by", a, b, c, "is", got, ok, "not", want, fine)
	}
	if ok && !impl.RegionOk(got) {
		t.Fatal(got, "is no outline")
	}
	rest, ok2 := impl.Clip(r, q(-a.Num, a.Den), q(-b.Num, b.Den), q(-c.Num, c.Den))
	if ok && ok2 && plusRat(areaOf(got), areaOf(rest)).Cmp(areaOf(r)) != 0 {
		t.Fatal(r, "clipped by", a, b, c, "has parts", got, rest)
	}
	if ok && impl.Within(got, r) != 1 {
		t.Fatal(r, "clipped by", a, b, c, "is", got, "which is not within")
	}
	return ok
}

func TestClipByHand(t *testing.T) {
	sq := region(box(0, 0, 4, 4))
	ring := made(t, box(0, 0, 6, 6), box(2, 2, 4, 4))
	two := region(box(0, 0, 2, 2), box(4, 0, 6, 2))
	for _, c := range []struct {
		name    string
		r       impl.Region
		a, b, c int64
		want    [][]impl.V
	}{
		{"across", sq, 1, 0, 3, lps(box(0, 0, 3, 4))}, {"across, the rest", sq, -1, 0, -3, lps(box(3, 0, 4, 4))},
		{"lying", sq, 0, 1, 1, lps(box(0, 0, 4, 1))}, {"lying, the rest", sq, 0, -2, -2, lps(box(0, 1, 4, 4))},
		{"slanted through corners", sq, 1, 1, 4, lps(lp(0, 0, 4, 0, 0, 4))}, {"slanted through corners, the rest", sq, -1, -1, -4, lps(lp(0, 4, 4, 0, 4, 4))},
		{"slanted", sq, 1, 1, 2, lps(lp(0, 0, 2, 0, 0, 2))}, {"slanted, the rest", sq, -3, -3, -6, lps(lp(0, 2, 2, 0, 4, 0, 4, 4, 0, 4))},
		{"at a corner alone", sq, 1, 1, 0, nil}, {"at a corner, all", sq, -1, -1, 0, sq.Loops}, {"at the far corner", sq, 1, 1, 8, sq.Loops}, {"beyond the far corner", sq, -1, -1, -8, nil},
		{"along an edge", sq, 1, 0, 4, sq.Loops}, {"along an edge, nothing", sq, -1, 0, -4, nil}, {"along the left edge", sq, 1, 0, 0, nil}, {"along the lower edge, all", sq, 0, -1, 0, sq.Loops},
		{"past all", sq, 1, 0, 100, sq.Loops}, {"past all, nothing", sq, 1, 0, -100, nil}, {"past all, slanted", sq, 3, 7, 1000, sq.Loops}, {"past all, far", sq, 1, 0, top, sq.Loops},
		{"the empty one", impl.Region{}, 1, 2, 3, nil},
		{"through the hole", ring, 1, 0, 3, lps(lp(0, 0, 3, 0, 3, 2, 2, 2, 2, 4, 3, 4, 3, 6, 0, 6))}, {"along the hole", ring, 0, 1, 2, lps(box(0, 0, 6, 2))},
		{"along the far side of the hole", ring, 0, 1, 4, lps(lp(0, 0, 6, 0, 6, 4, 4, 4, 4, 2, 2, 2, 2, 4, 0, 4))}, {"the hole left out", ring, 0, 1, 1, lps(box(0, 0, 6, 1))}, {"the hole kept", ring, 0, 1, 5, lps(box(0, 0, 6, 5), lp(2, 2, 2, 4, 4, 4, 4, 2))},
		{"between two", two, 1, 0, 3, lps(box(0, 0, 2, 2))}, {"along one of two", two, 1, 0, 4, lps(box(0, 0, 2, 2))}, {"through both", two, 0, 1, 1, lps(box(0, 0, 2, 1), box(4, 0, 6, 1))},
		{"a corner of the hole", region(box(0, 0, 6, 6), lp(1, 3, 3, 5, 5, 3, 3, 1)), 0, 1, 3, lps(lp(0, 0, 6, 0, 6, 3, 5, 3, 3, 1, 1, 3, 0, 3))},
		{"a tip that is touched", region(box(0, 0, 6, 6), lp(1, 3, 3, 5, 5, 3, 3, 1)), 0, 1, 5, lps(lp(0, 0, 6, 0, 6, 5, 3, 5, 5, 3, 3, 1, 1, 3, 3, 5, 0, 5))},
	} {
		got, ok := impl.Clip(c.r, q(c.a, 1), q(c.b, 1), q(c.c, 1))
		if !ok || !sameLoops(got.Loops, c.want) {
			t.Error(c.name, got, ok, "not", c.want)
		}
		if !checkClip(t, c.r, q(c.a, 1), q(c.b, 1), q(c.c, 1)) {
			t.Error(c.name, "is refused")
		}
		checkClip(t, c.r, q(-c.a, 1), q(-c.b, 1), q(-c.c, 1))
	}
}

func TestClipMany(t *testing.T) {
	t.Parallel()
	made, refused := 0, 0
	for kind := range spotKinds {
		s := &shapes{spots{dice(4400 + kind), kind}}
		for range []int{70, 25, 12, 16, 6}[kind] {
			r, ok := impl.MakeRegion(s.loops())
			a, b, c := s.coord(), s.coord(), s.coord()
			if !ok || a.Num == 0 && b.Num == 0 {
				continue
			}
			if kind < 2 && s.next()%2 == 0 && len(r.Loops) > 0 {
				// Through a place of it.
				v := r.Loops[0][s.next()%uint64(len(r.Loops[0]))]
				x, _ := impl.QMul(a, v.X)
				y, _ := impl.QMul(b, v.Y)
				c, _ = impl.QAdd(x, y)
			}
			if checkClip(t, r, a, b, c) {
				made++
			} else {
				refused++
			}
		}
	}
	if made < 80 || refused < 3 {
		t.Error("too few of a kind", made, refused)
	}
}

func TestClipPlacesThatAreNone(t *testing.T) {
	flat, _ := flatAndLow()
	if checkClip(t, flat, q(1, 1), q(0, 1), q(1, 2)) || checkClip(t, swappedRegion(t, flat), q(0, 1), q(1, 1), q(1, 2)) {
		t.Error("X is 1/2, but Y no Q")
	}
	if !checkClip(t, flat, q(1, 1), q(0, 1), q(0, 1)) || !checkClip(t, flat, q(0, 1), q(1, 1), q(1, 1)) {
		t.Error("along an edge of a flat one")
	}
	if !checkClip(t, region(lp(0, 0, top, 1, 0, 1)), q(1, 1), q(0, 1), q(1, 1)) {
		t.Error("a denominator that is MaxNum")
	}
	// Numbers of the line that are as great and as fine as can be.
	sq := region(box(-4, -4, 4, 4))
	for _, c := range [][3]impl.Q{{q(top, 1), q(top, 1), q(top, 1)}, {q(1, top), q(1, top), q(1, top)}, {q(top, 1), q(1, top), q(0, 1)}, {q(-top, top-1), q(top-1, top), q(0, 1)}} {
		checkClip(t, sq, c[0], c[1], c[2])
		checkClip(t, region(box(-top, -top, top, top)), c[0], c[1], c[2])
	}
}

func TestMostEdgesOfClips(t *testing.T) {
	// Of each tooth the tip is cut off, which has two places for one.
	comb := teeth(32).Loops[0]
	for want, foot := range map[int][]impl.V{98: nil, 99: lp(7, -3), 100: lp(5, -3, 9, -3), 101: lp(5, -3, 7, -4, 9, -3)} {
		r := made(t, slices.Insert(slices.Clone(comb), 1, foot...))
		if countPlaces(r.Loops) != want-32 {
			t.Fatal(countPlaces(r.Loops), "places of the comb")
		}
		got, ok := impl.Clip(r, q(0, 1), q(1, 1), q(500, 1))
		if ok != (want <= 100) || ok && countPlaces(got.Loops) != want || !ok && got.Loops != nil {
			t.Error(want, "places, but", countPlaces(got.Loops), ok)
		}
	}
}

// partsIn cuts the way from a to b wherever an edge meets it, and puts together what has its middle inside or on an edge.
func partsIn(edges []pointEdge, a, b point) []pointEdge {
	stops := []point{a, b}
	for _, e := range edges {
		for _, p := range metAlong(a, b, e) {
			if isOn(p, a, b) {
				stops = append(stops, p)
			}
		}
	}
	stops = sortedPoints(stops)
	if a.cmp(b) > 0 {
		slices.Reverse(stops)
	}
	var parts []pointEdge
	for i := range stops[1:] {
		middle := between(stops[i], stops[i+1], big.NewRat(1, 2))
		on := slices.ContainsFunc(edges, func(e pointEdge) bool { return isOn(middle, e.a, e.b) })
		if !on && !isOddly(middle, edges) {
			continue
		}
		if last := len(parts) - 1; last >= 0 && parts[last].b.cmp(stops[i]) == 0 {
			parts[last].b = stops[i+1]
		} else {
			parts = append(parts, pointEdge{stops[i], stops[i+1]})
		}
	}
	return parts
}

// toldSegs is false when an end is no V.
func toldSegs(parts []pointEdge) ([]impl.Seg, bool) {
	var list []impl.Seg
	for _, p := range parts {
		from, ok1 := p.a.place()
		to, ok2 := p.b.place()
		if !ok1 || !ok2 {
			return nil, false
		}
		list = append(list, impl.Seg{A: from, B: to})
	}
	return list, true
}

func wantClipSeg(r impl.Region, s impl.Seg) ([]impl.Seg, bool) {
	return toldSegs(partsIn(edgesOf(pointLoops(r.Loops)), pointOf(s.A), pointOf(s.B)))
}

// checkClipSeg looks at both directions.
func checkClipSeg(t *testing.T, r impl.Region, s impl.Seg) bool {
	t.Helper()
	want, fine := wantClipSeg(r, s)
	if got, ok := impl.ClipSeg(r, s); ok != fine || !slices.Equal(got, want) {
		t.Fatal(s, "in", r, "has", got, ok, "not", want, fine)
	}
	for i := range want {
		want[i] = turned(want[i])
	}
	slices.Reverse(want)
	if got, ok := impl.ClipSeg(r, turned(s)); ok != fine || !slices.Equal(got, want) {
		t.Fatal(s, "the other way round, in", r, "has", got, ok, "not", want, fine)
	}
	return fine
}

func TestClipSegByHand(t *testing.T) {
	ring := made(t, box(0, 0, 6, 6), box(2, 2, 4, 4))
	bow := region(lp(0, 0, 2, 2, 0, 4), lp(2, 2, 4, 0, 4, 4))
	comb := region(lp(0, 0, 6, 0, 6, 4, 5, 2, 4, 4, 3, 2, 2, 4))
	for _, c := range []struct {
		name string
		r    impl.Region
		s    impl.Seg
		want []impl.Seg
	}{
		{"through the hole", ring, seg(-1, 3, 7, 3), segs(seg(0, 3, 2, 3), seg(4, 3, 6, 3))},
		{"ends inside", ring, seg(1, 3, 5, 3), segs(seg(1, 3, 2, 3), seg(4, 3, 5, 3))},
		{"ends on edges", ring, seg(0, 3, 6, 3), segs(seg(0, 3, 2, 3), seg(4, 3, 6, 3))},
		{"ends on the hole", ring, seg(2, 3, 4, 3), nil},
		{"from the hole on", ring, seg(3, 3, 9, 3), segs(seg(4, 3, 6, 3))},
		{"inside", ring, seg(1, 1, 5, 1), segs(seg(1, 1, 5, 1))},
		{"outside", ring, seg(7, 1, 9, 9), nil},
		{"in the hole", ring, impl.Seg{A: impl.V{X: q(5, 2), Y: q(5, 2)}, B: at(3, 3)}, nil},
		{"along the outer edge", ring, seg(-1, 0, 9, 0), segs(seg(0, 0, 6, 0))},
		{"within the outer edge", ring, seg(0, 5, 0, 2), segs(seg(0, 5, 0, 2))},
		{"along the hole", ring, seg(2, -1, 2, 9), segs(seg(2, 0, 2, 6))},
		{"along the hole alone", ring, seg(2, 4, 2, 2), segs(seg(2, 4, 2, 2))},
		{"through corners", ring, seg(-1, -1, 7, 7), segs(seg(0, 0, 2, 2), seg(4, 4, 6, 6))},
		{"past a corner", ring, seg(-1, 1, 1, -1), nil},
		{"at a corner of the hole", ring, seg(1, 3, 3, 1), segs(seg(1, 3, 3, 1))},
		{"from a corner away", ring, seg(6, 6, 9, 9), nil},
		{"from a corner in", ring, seg(6, 6, 5, 5), segs(seg(6, 6, 5, 5))},
		{"where two touch", bow, seg(-1, 2, 5, 2), segs(seg(0, 2, 4, 2))},
		{"past where two touch", bow, seg(2, -1, 2, 5), nil},
		{"along both", bow, seg(0, 0, 4, 4), segs(seg(0, 0, 4, 4))},
		{"through teeth", comb, seg(0, 3, 9, 3), []impl.Seg{
			{A: impl.V{X: q(3, 2), Y: q(3, 1)}, B: impl.V{X: q(5, 2), Y: q(3, 1)}}, {A: impl.V{X: q(7, 2), Y: q(3, 1)}, B: impl.V{X: q(9, 2), Y: q(3, 1)}}, {A: impl.V{X: q(11, 2), Y: q(3, 1)}, B: at(6, 3)},
		}},
		{"at the tips", comb, seg(0, 4, 9, 4), nil},
		{"at the feet", comb, seg(0, 2, 9, 2), segs(seg(1, 2, 6, 2))},
		{"in the empty one", impl.Region{}, seg(0, 0, 1, 1), nil},
		{"great", region(box(-1, -1, 1, 1)), seg(-top, -top, top, top), segs(seg(-1, -1, 1, 1))},
	} {
		if got, ok := impl.ClipSeg(c.r, c.s); !ok || !slices.Equal(got, c.want) {
			t.Error(c.name, got, ok, "not", c.want)
		}
		if !checkClipSeg(t, c.r, c.s) {
			t.Error(c.name, "is refused")
		}
	}
	flat, _ := flatAndLow()
	upright := impl.Seg{A: impl.V{X: q(1, 2), Y: q(-1, 1)}, B: impl.V{X: q(1, 2), Y: q(2, 1)}}
	if checkClipSeg(t, flat, upright) || checkClipSeg(t, swappedRegion(t, flat), swappedSeg(upright)) {
		t.Error("an end that is no V")
	}
	if !checkClipSeg(t, flat, impl.Seg{A: impl.V{X: q(1, 2), Y: q(1, 2)}, B: upright.B}) {
		t.Error("the end that is no V is not met")
	}
}

func TestClipSegMany(t *testing.T) {
	made, refused := 0, 0
	for kind := range spotKinds {
		s := &shapes{spots{dice(5500 + kind), kind}}
		for range []int{150, 60, 60, 40, 30}[kind] {
			r, ok := impl.MakeRegion(s.loops())
			if !ok {
				continue
			}
			list := segs(s.seg(), s.seg(), s.seg())
			if len(r.Loops) > 0 {
				// Through places of it, and along an edge.
				loop := r.Loops[0]
				k := int(s.next() % uint64(len(loop)))
				list = append(list, impl.Seg{A: loop[k], B: loop[(k+1)%len(loop)]}, impl.Seg{A: loop[k], B: loop[(k+2)%len(loop)]}, impl.Seg{A: loop[k], B: s.place()})
			}
			for _, o := range list {
				if !impl.SegOk(o) {
					continue
				}
				if checkClipSeg(t, r, o) {
					made++
				} else {
					refused++
				}
			}
		}
	}
	if made < 800 || refused < 30 {
		t.Error("too few of a kind", made, refused)
	}
}

// wantStrips tells the corners, each once, of the strips by another way.
func wantStrips(r impl.Region) ([][]impl.V, bool) {
	var list [][]impl.V
	for _, s := range slices.Concat(stripsOf(pointLoops(r.Loops))...) {
		corners := []point{s.leftLow, s.rightLow}
		if s.rightLow.cmp(s.rightHigh) != 0 {
			corners = append(corners, s.rightHigh)
		}
		if s.leftLow.cmp(s.leftHigh) != 0 {
			corners = append(corners, s.leftHigh)
		}
		var part []impl.V
		for _, p := range corners {
			v, ok := p.place()
			if !ok {
				return nil, false
			}
			part = append(part, v)
		}
		list = append(list, part)
	}
	return list, true
}

// checkStrips asks that each goes round to the left, and that they have together the area.
func checkStrips(t *testing.T, r impl.Region) bool {
	t.Helper()
	want, fine := wantStrips(r)
	got, ok := impl.Strips(r)
	if ok != fine || !sameLoops(got, want) {
		t.Fatal(r, "has strips", got, ok, "not", want, fine)
	}
	if !ok {
		return false
	}
	area := new(big.Rat)
	for _, part := range got {
		one := impl.Region{Loops: lps(part)}
		if !impl.RegionOk(one) || len(part) < 3 || len(part) > 4 || impl.Within(one, r) != 1 {
			t.Fatal("strip", part, "of", r)
		}
		area = plusRat(area, areaOf(one))
	}
	if area.Cmp(areaOf(r)) != 0 {
		t.Fatal("the strips of", r, "have together", area)
	}
	return true
}

func TestStripsByHand(t *testing.T) {
	half := func(x, y int64) impl.V { return impl.V{X: q(x, 1), Y: q(y, 2)} }
	for _, c := range []struct {
		name string
		r    impl.Region
		want [][]impl.V
	}{
		{"nothing", impl.Region{}, nil},
		{"a square", region(box(0, 0, 2, 2)), lps(box(0, 0, 2, 2))},
		{"a triangle with an upright edge on the left", region(lp(0, 0, 4, 0, 0, 4)), lps(lp(0, 0, 4, 0, 0, 4))},
		{"a triangle with an upright edge on the right", region(lp(0, 0, 4, -1, 4, 3)), lps(lp(0, 0, 4, -1, 4, 3))},
		{"a triangle with two strips", region(lp(0, 0, 4, 0, 2, 4)), lps(lp(0, 0, 2, 0, 2, 4), lp(2, 0, 4, 0, 2, 4))},
		{"the same below", region(lp(0, 0, 2, -4, 4, 0)), lps(lp(0, 0, 2, -4, 2, 0), lp(2, -4, 4, 0, 2, 0))},
		{"corners between", region(lp(0, 0, 4, 0, 3, 3, 1, 3)), lps(lp(0, 0, 1, 0, 1, 3), lp(1, 0, 3, 0, 3, 3, 1, 3), lp(3, 0, 4, 0, 3, 3))},
		{"a ring", region(box(0, 0, 6, 6), lp(2, 2, 2, 4, 4, 4, 4, 2)), lps(box(0, 0, 2, 6), box(2, 0, 4, 2), box(2, 4, 4, 6), box(4, 0, 6, 6))},
		{"one in the hole", region(box(0, 0, 6, 6), lp(1, 1, 1, 5, 5, 5, 5, 1), box(2, 2, 3, 3)), lps(box(0, 0, 1, 6), box(1, 0, 2, 1), box(1, 5, 2, 6),
			box(2, 0, 3, 1), box(2, 2, 3, 3), box(2, 5, 3, 6), box(3, 0, 5, 1), box(3, 5, 5, 6), box(5, 0, 6, 6))},
		{"two side by side, a gap between", region(box(0, 0, 1, 1), box(3, 0, 4, 1)), lps(box(0, 0, 1, 1), box(3, 0, 4, 1))},
		{"two one above the other", region(box(0, 0, 2, 1), box(0, 3, 2, 4)), lps(box(0, 0, 2, 1), box(0, 3, 2, 4))},
		{"two that touch at a place", region(lp(0, 0, 2, 2, 0, 4), lp(2, 2, 4, 0, 4, 4)), lps(lp(0, 0, 2, 2, 0, 4), lp(2, 2, 4, 0, 4, 4))},
		{"two above one another that touch at a place", region(lp(0, 0, 4, 0, 2, 2), lp(0, 4, 2, 2, 4, 4)),
			lps(lp(0, 0, 2, 0, 2, 2), lp(0, 4, 2, 2, 2, 4), lp(2, 0, 4, 0, 2, 2), lp(2, 2, 4, 4, 2, 4))},
		{"a corner on an edge", region(box(0, 0, 4, 4), lp(1, -1, 3, -1, 2, 0)), lps(box(0, 0, 1, 4), lp(1, -1, 2, -1, 2, 0), box(1, 0, 2, 4), lp(2, -1, 3, -1, 2, 0), box(2, 0, 3, 4), box(3, 0, 4, 4))},
		{"a line through another one's edge", region(lp(0, 0, 4, 0, 4, 2, 0, 1), box(1, 5, 2, 6)), lps(
			[]impl.V{at(0, 0), at(1, 0), {X: q(1, 1), Y: q(5, 4)}, at(0, 1)},
			[]impl.V{at(1, 0), at(2, 0), half(2, 3), {X: q(1, 1), Y: q(5, 4)}}, box(1, 5, 2, 6),
			[]impl.V{at(2, 0), at(4, 0), at(4, 2), half(2, 3)})},
		{"a fan from one place", region(lp(0, 0, 4, 1, 4, 2), lp(0, 0, 4, 3, 4, 4)), lps(lp(0, 0, 4, 1, 4, 2), lp(0, 0, 4, 3, 4, 4))},
	} {
		if got, ok := impl.Strips(c.r); !ok || !sameLoops(got, c.want) {
			t.Error(c.name, got, ok, "not", c.want)
		}
		if !checkStrips(t, c.r) {
			t.Error(c.name, "is refused")
		}
	}
	// A line through a place of one goes through the edge of another one at a place that is no V.
	flat, _ := flatAndLow()
	beside := []impl.V{{X: q(1, 2), Y: q(5, 1)}, at(1, 5), at(1, 6)}
	if checkStrips(t, region(flat.Loops[0], beside)) {
		t.Error("a corner that is no V")
	}
	if !checkStrips(t, region(flat.Loops[0], lp(top-1, 5, top, 5, top, 6))) {
		t.Error("corners that all are V")
	}
}

func TestStripsMany(t *testing.T) {
	made, refused := 0, 0
	for kind := range spotKinds {
		s := &shapes{spots{dice(6600 + kind), kind}}
		for range []int{60, 25, 15, 25, 10}[kind] {
			r, ok := impl.MakeRegion(s.loops())
			if !ok {
				continue
			}
			if checkStrips(t, r) {
				made++
			} else {
				refused++
			}
		}
	}
	if made < 80 || refused < 5 {
		t.Error("too few of a kind", made, refused)
	}
	checkStrips(t, teeth(49))
	checkStrips(t, swappedRegion(t, teeth(49)))
}
