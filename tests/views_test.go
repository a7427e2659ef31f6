package tests

import (
	"math/big"
	"slices"
	"testing"

	"loop.example/g00022/impl"
)

// Promise 10: what is seen.

// wantSeen looks on both sides of all that could be border: the edges, and the ways from v over each corner to far away. Between
// these no way from v meets a corner, so that it is in the region just when it crosses no edge.
func wantSeen(r impl.Region, v impl.V) ([][]impl.V, bool) {
	eye, edges := pointOf(v), edgesOf(pointLoops(r.Loops))
	most := new(big.Rat)
	size := func(p point) *big.Rat {
		x, y := minusRat(p.x, eye.x), minusRat(p.y, eye.y)
		return plusRat(x.Abs(x), y.Abs(y))
	}
	for _, e := range edges {
		most = slices.MaxFunc([]*big.Rat{most, size(e.a)}, (*big.Rat).Cmp)
	}
	lines := slices.Clone(edges)
	for _, e := range edges {
		far := timesRat(big.NewRat(3, 1), new(big.Rat).Quo(most, size(e.a)))
		lines = append(lines, pointEdge{eye, between(eye, e.a, far)})
	}
	return wantOutline(lines, func(p point) bool {
		return !slices.ContainsFunc(edges, func(e pointEdge) bool { return crossEachOther(e, pointEdge{eye, p}) })
	})
}

func checkSeen(t *testing.T, r impl.Region, v impl.V) (impl.Region, bool) {
	t.Helper()
	want, fine := wantSeen(r, v)
	got, ok := impl.Visible(r, v)
	if ok != fine || !sameLoops(got.Loops, want) {
		t.Fatal("from", v, "of", r, "is seen", got, ok, "not", want, fine)
	}
	if ok && (!impl.RegionOk(got) || impl.Within(got, r) != 1 || impl.Where(got, v) != impl.WhereIn || len(got.Loops) != 1) {
		t.Fatal("from", v, "of", r, "is seen", got)
	}
	return got, ok
}

type viewCase struct {
	name string
	r    impl.Region
	v    impl.V
	want []impl.V
}

func viewCases(t *testing.T) []viewCase {
	big := box(0, 0, 10, 10)
	el := region(lp(0, 0, 6, 0, 6, 3, 3, 3, 3, 6, 0, 6))
	ring := made(t, big, box(4, 4, 6, 6))
	star := lp(-6, 0, -1, -1, 0, -6, 1, -1, 6, 0, 1, 1, 0, 6, -1, 1)
	third := func(n int64) impl.Q { return q(n, 3) }
	return []viewCase{
		{"a triangle", region(lp(0, 0, 6, 0, 0, 6)), at(1, 1), lp(0, 0, 6, 0, 0, 6)},
		{"a square", region(big), at(9, 1), big},
		{"round", region(begun(round(), 6)), at(1, 2), begun(round(), 6)},
		{"great", region(box(-top, -top, top, top)), at(top-1, 1-top), box(-top, -top, top, top)},
		{"all of a loop that is not convex", el, at(2, 2), el.Loops[0]},
		{"all of it, in line with two edges' corner", el, at(1, 1), el.Loops[0]},
		{"all of a star", region(star), at(0, 0), star},
		{"a part of an arm", el, at(5, 1), []impl.V{at(0, 0), at(6, 0), at(6, 3), at(3, 3), at(0, 6)}},
		{"a part of an arm, with a corner on the left edge", el, at(4, 1), []impl.V{at(0, 0), at(6, 0), at(6, 3), at(3, 3), {X: q(3, 2), Y: q(6, 1)}, at(0, 6)}},
		{"along an edge that is nearer", el, at(5, 2), []impl.V{at(0, 0), at(6, 0), at(6, 3), at(3, 3), {X: q(0, 1), Y: q(9, 2)}}},
		{"sight along an edge", region(lp(0, 0, 8, 0, 8, 3, 5, 3, 5, 6, 0, 6)), at(3, 3), lp(0, 0, 8, 0, 8, 3, 5, 3, 5, 6, 0, 6)},
		{"a niche", region(lp(0, 0, 10, 0, 10, 4, 6, 4, 6, 8, 4, 8, 4, 4, 0, 4)), at(1, 1), []impl.V{at(0, 0), at(10, 0), at(10, 4), at(6, 4), {X: q(6, 1), Y: q(6, 1)}, at(4, 4), at(0, 4)}},
		{"two niches", region(lp(0, 0, 9, 0, 9, 4, 8, 4, 8, 8, 6, 8, 6, 4, 3, 4, 3, 8, 1, 8, 1, 4, 0, 4)), at(2, 2),
			[]impl.V{at(0, 0), at(9, 0), at(9, 4), at(8, 4), at(8, 5), at(6, 4), at(3, 4), at(3, 8), at(1, 8), at(1, 4), at(0, 4)}},
		{"behind a hole", ring, at(1, 5), lp(0, 0, 10, 0, 10, 2, 4, 4, 4, 6, 10, 8, 10, 10, 0, 10)},
		{"in line with an edge of a hole", ring, at(1, 4), lp(0, 0, 10, 0, 10, 4, 4, 4, 4, 6, 10, 10, 0, 10)},
		{"at the corner of a hole", ring, at(2, 2), lp(0, 0, 10, 0, 10, 6, 6, 4, 4, 4, 4, 6, 6, 10, 0, 10)},
		{"two holes, one behind the other", made(t, box(0, 0, 20, 10), box(4, 4, 6, 6), box(8, 4, 10, 6)), at(1, 5), []impl.V{at(0, 0), at(16, 0), at(4, 4), at(4, 6), at(16, 10), at(0, 10)}},
		{"past a corner that touches from above", made(t, big, lp(4, 5, 6, 7, 4, 7)), at(1, 5), []impl.V{at(0, 0), at(10, 0), at(10, 5), at(4, 5), at(4, 7), {X: q(17, 2), Y: q(10, 1)}, at(0, 10)}},
		{"past a corner that touches from below", made(t, big, lp(4, 5, 6, 3, 4, 3)), at(1, 5), []impl.V{at(0, 0), {X: q(17, 2), Y: q(0, 1)}, at(4, 3), at(4, 5), at(10, 5), at(10, 10), at(0, 10)}},
		{"between two corners a bare line", made(t, big, lp(3, 5, 4, 6, 3, 7), lp(6, 5, 7, 4, 6, 3)), at(1, 5),
			[]impl.V{at(0, 0), at(10, 0), {X: q(10, 1), Y: q(7, 5)}, at(6, 3), at(6, 5), at(3, 5), at(3, 7), at(6, 10), at(0, 10)}},
		{"two corners behind one another", made(t, big, lp(3, 5, 4, 7, 3, 7), lp(6, 5, 7, 6, 6, 6)), at(1, 5), lp(0, 0, 10, 0, 10, 5, 3, 5, 3, 7, 6, 10, 0, 10)},
		{"a corner behind an edge", made(t, big, lp(4, 3, 4, 7, 5, 5)), at(1, 5), []impl.V{at(0, 0), {X: q(17, 2), Y: q(0, 1)}, at(4, 3), at(4, 7), {X: q(17, 2), Y: q(10, 1)}, at(0, 10)}},
		{"pieces that touch at a place", region(box(0, 0, 4, 4), box(4, 4, 8, 8)), at(2, 2), box(0, 0, 4, 4)},
		{"pieces that touch, from the other", region(box(0, 0, 4, 4), box(4, 4, 8, 8)), at(6, 5), box(4, 4, 8, 8)},
		{"a hole that touches the outer edge", made(t, big, lp(5, 0, 7, 2, 3, 2)), at(5, 5), []impl.V{at(0, 0), {X: third(5), Y: q(0, 1)}, at(3, 2), at(7, 2), {X: third(25), Y: q(0, 1)}, at(10, 0), at(10, 10), at(0, 10)}},
		{"beside a hole that touches the outer edge", made(t, big, lp(5, 0, 7, 2, 3, 2)), at(1, 1), []impl.V{at(0, 0), at(5, 0), at(3, 2), {X: q(10, 1), Y: q(11, 2)}, at(10, 10), at(0, 10)}},
		{"two holes that touch one another", made(t, big, box(3, 3, 5, 5), box(5, 5, 7, 7)), at(1, 1),
			[]impl.V{at(0, 0), at(10, 0), {X: q(10, 1), Y: q(11, 2)}, at(5, 3), at(3, 3), at(3, 5), {X: q(11, 2), Y: q(10, 1)}, at(0, 10)}},
		{"an island in a hole", made(t, big, box(1, 1, 9, 9), box(3, 3, 7, 7)), at(4, 5), box(3, 3, 7, 7)},
		{"two pieces apart", region(box(0, 0, 2, 2), box(4, 0, 6, 2)), at(5, 1), box(4, 0, 6, 2)},
	}
}

func TestViewsByHand(t *testing.T) {
	t.Parallel()
	for _, c := range viewCases(t) {
		if got, ok := checkSeen(t, c.r, c.v); !ok || !sameLoops(got.Loops, lps(c.want)) {
			t.Error(c.name, got, ok, "not", c.want)
		}
		// The same in a mirror.
		turned, ok := impl.Move(c.r, aff(0, 1, 1, 0, 0, 0))
		want, _ := impl.Move(region(c.want), aff(0, 1, 1, 0, 0, 0))
		if got, fine := checkSeen(t, turned, swapped(c.v)); !ok || !fine || !sameLoops(got.Loops, want.Loops) {
			t.Error(c.name, "in a mirror", got)
		}
	}
}

// isWayIn tells whether the way from v to w is wholly in r, and whether it meets a corner on the way.
func isWayIn(r impl.Region, v, w impl.V) (in, clear bool) {
	way := impl.Seg{A: v, B: w}
	parts, ok := impl.ClipSeg(r, way)
	clear = !slices.ContainsFunc(slices.Concat(r.Loops...), func(o impl.V) bool { return impl.OnSeg(o, way) })
	return ok && len(parts) == 1 && parts[0] == way, clear
}

// checkSeenPlaces: what is seen is seen both ways, and along a way that is in the region.
func checkSeenPlaces(t *testing.T, r impl.Region, places []impl.V) (seen, hidden, bare int) {
	t.Helper()
	views := make([]impl.Region, len(places))
	for i, v := range places {
		view, ok := impl.Visible(r, v)
		if !ok {
			t.Fatal("nothing is seen from", v, "in", r)
		}
		views[i] = view
		for j, w := range places[:i] {
			there, back := impl.Where(view, w) != impl.WhereOut, impl.Where(views[j], v) != impl.WhereOut
			if there != back {
				t.Fatal(v, "sees", w, there, "but the other way", back, "in", r)
			}
			switch in, clear := isWayIn(r, v, w); {
			case there && !in:
				t.Fatal(v, "sees", w, "through the wall of", r)
			case there:
				seen++
			case in && clear:
				t.Fatal(v, "does not see", w, "in", r)
			case in:
				bare++
			default:
				hidden++
			}
		}
	}
	return seen, hidden, bare
}

// placesIn are those of a grid of halves that are inside.
func placesIn(r impl.Region, least, most int64) []impl.V {
	var list []impl.V
	for x := 2 * least; x <= 2*most; x++ {
		for y := 2 * least; y <= 2*most; y++ {
			v := impl.V{}
			v.X, _ = impl.QOf(x, 2)
			v.Y, _ = impl.QOf(y, 2)
			if impl.Where(r, v) == impl.WhereIn {
				list = append(list, v)
			}
		}
	}
	return list
}

func TestSeenBothWays(t *testing.T) {
	t.Parallel()
	seen, hidden, bare := 0, 0, 0
	check := func(r impl.Region, list []impl.V) {
		s, h, b := checkSeenPlaces(t, r, list)
		seen, hidden, bare = seen+s, hidden+h, bare+b
	}
	for _, r := range []impl.Region{
		made(t, box(0, 0, 7, 7), box(2, 2, 3, 3), box(4, 4, 5, 5), lp(5, 1, 6, 1, 6, 3)),
		made(t, box(0, 0, 6, 6), lp(1, 3, 2, 4, 1, 5), lp(4, 3, 5, 2, 4, 1)),
		made(t, box(0, 0, 3, 3), box(3, 3, 6, 6), lp(0, 3, 3, 3, 0, 6)),
	} {
		// Each third one, so that it is soon done.
		var list []impl.V
		for part := range slices.Chunk(placesIn(r, 0, 7), 3) {
			list = append(list, part[0])
		}
		check(r, list)
	}
	s := &shapes{spots{dice(1030), 0}}
	for range 12 {
		r, _ := impl.MakeRegion(s.loops())
		list := placesIn(r, -3, 3)
		check(r, list[:min(len(list), 8)])
	}
	if seen < 600 || hidden < 600 || bare < 5 {
		t.Error("too few of a kind", seen, hidden, bare)
	}
}

func TestViewsMany(t *testing.T) {
	t.Parallel()
	fine, refused := 0, 0
	for kind := range spotKinds {
		s := &shapes{spots{dice(1040 + kind), kind}}
		for range []int{80, 40, 60, 60, 60}[kind] {
			r, ok := impl.MakeRegion(s.loops())
			if !ok || countPlaces(r.Loops) > 16-2*kind {
				continue
			}
			for i := range 4 {
				v := s.place()
				if i%2 == 0 {
					// Of great loops, most have places near the origin inside.
					v, _ = point{big.NewRat(s.upTo(9), 3), big.NewRat(s.upTo(9), 7)}.place()
				}
				if impl.Where(r, v) != impl.WhereIn {
					if got, ok := impl.Visible(r, v); ok || got.Loops != nil {
						t.Fatal(v, "is not inside", r, got)
					}
					continue
				}
				if _, ok := checkSeen(t, r, v); ok {
					fine++
				} else {
					refused++
				}
			}
		}
	}
	if fine < 70 || refused < 8 {
		t.Error("too few of a kind", fine, refused)
	}
}

// blocks are holes around the origin, each apart from all others as seen from there. On an axis one edge is seen, elsewhere two.
func blocks(axes, others int) [][]impl.V {
	list := lps(box(-1000, -1000, 1000, 1000))
	for k := range max(axes, others) {
		turn := []impl.Aff{aff(1, 0, 0, 1, 0, 0), aff(0, -1, 1, 0, 0, 0), aff(-1, 0, 0, -1, 0, 0), aff(0, 1, -1, 0, 0, 0)}[k%4]
		add := func(loop []impl.V) {
			moved, _ := impl.Move(region(loop), turn)
			list = append(list, moved.Loops[0])
		}
		if k < axes {
			add(box(100, -1, 102, 1))
		}
		if k < others {
			at := [][2]int64{{100, 20}, {100, 50}, {50, 100}, {20, 100}, {100, 70}}[k/4]
			add(box(at[0], at[1], at[0]+2, at[1]+2))
		}
	}
	return list
}

func TestViewsMostPlaces(t *testing.T) {
	for _, c := range []struct{ axes, others, places int }{{4, 16, 100}, {3, 17, 0}, {0, 19, 99}, {1, 19, 0}, {4, 20, 0}} {
		r := made(t, blocks(c.axes, c.others)...)
		if got, ok := impl.Visible(r, at(0, 0)); ok != (c.places > 0) || countPlaces(got.Loops) != c.places {
			t.Error(c, countPlaces(got.Loops), ok)
		}
	}
	full := made(t, append(bars(), box(20, 0, 21, 1))...)
	if got, ok := impl.Visible(full, impl.V{X: q(41, 2), Y: q(1, 2)}); !ok || !sameLoops(got.Loops, lps(box(20, 0, 21, 1))) {
		t.Error("of as many places as there may be", got, ok)
	}
}

func TestViewsNoPlace(t *testing.T) {
	for _, c := range []struct {
		name string
		r    impl.Region
		v    impl.V
		fine bool
	}{
		{"a shadow's end that is no V", region(lp(0, 0, top, 0, top, 4, top-1, 4, top-1, 2, 3, 2, 3, 1, 0, 1)), impl.V{X: q(1, 2), Y: q(1, 3)}, false},
		{"all but a corner", region(lp(0, 0, top, 0, top, 1, top-1, 1, top-1, 2, 3, 2, 3, 1, 0, 1)), impl.V{X: q(1, 2), Y: q(1, 3)}, true},
		{"great, but whole", region(lp(-top, -top, top, -top, top, 0, 0, 0, 0, top, -top, top)), at(-top/2, -top/2), true},
		{"great, over the corner", region(lp(-top, -top, top, -top, top, 0, 0, 0, 0, top, -top, top)), at(top/2, -top/2), true},
		{"great, over the corner by a little", region(lp(-top, -top, top, -top, top, 0, 0, 0, 0, top, -top, top)), at(top/2+1, -top/2), false},
		{"a small part", region(lp(0, 0, 4, 0, 4, 2, 2, 2, 2, 4, 0, 4)), impl.V{X: q(3, 1), Y: q(1, top)}, false},
		{"a small part, all seen", region(lp(0, 0, 4, 0, 4, 2, 2, 2, 2, 4, 0, 4)), impl.V{X: q(1, top), Y: q(1, top)}, true},
	} {
		if got, ok := checkSeen(t, c.r, c.v); ok != c.fine {
			t.Error(c.name, got, ok)
		}
	}
}

func checkNothingSeen(t *testing.T, name any, r impl.Region, v impl.V) {
	t.Helper()
	if got, ok := impl.Visible(r, v); ok || got.Loops != nil {
		t.Error(name, "from", v, "is seen", got, ok)
	}
}

func TestViewsRefused(t *testing.T) {
	clean := region(box(0, 0, 6, 6), lp(1, 1, 1, 5, 5, 5, 5, 1))
	half := impl.V{X: q(1, 2), Y: q(1, 2)}
	if _, ok := checkSeen(t, clean, half); !ok {
		t.Error("nothing is seen of a ring")
	}
	for name, v := range map[string]impl.V{
		"at the edge": at(3, 0), "at a corner": at(6, 6), "at the hole's edge": at(1, 3), "at a hole's corner": at(5, 5), "in the hole": at(3, 3),
		"outside": at(7, 3), "far outside": at(top, -top), "outside, just": {X: q(-1, top), Y: q(3, 1)},
	} {
		checkNothingSeen(t, name, clean, v)
	}
	checkNothingSeen(t, "the empty region", impl.Region{}, half)
	checkNothingSeen(t, "where pieces touch", region(box(0, 0, 4, 4), box(4, 4, 8, 8)), at(4, 4))
	for name, loops := range notOutlines() {
		for _, v := range []impl.V{half, at(3, 3), at(1, 1)} {
			checkNothingSeen(t, name, impl.Region{Loops: loops}, v)
		}
	}
	for _, v := range brokenPlaces() {
		checkNothingSeen(t, "a ring", clean, v)
		checkNothingSeen(t, "a square", region(box(-9, -9, 9, 9)), v)
		checkNothingSeen(t, "the empty region", impl.Region{}, v)
	}
	for _, r := range brokenRegions() {
		checkNothingSeen(t, "a broken one", r, half)
	}
}
