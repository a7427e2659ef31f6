package tests

import (
	"math/big"
	"slices"
	"testing"

	"loop.example/g00022/impl"
)

// Promise 7: places put in.

// isCovered tells by areas whether p is in one of the triangles.
func isCovered(list []point, tris []impl.Tri, p point) bool {
	return slices.ContainsFunc(tris, func(s impl.Tri) bool {
		a, b, c := list[s.A], list[s.B], list[s.C]
		return plusRat(plusRat(size2(a, b, p), size2(b, c, p)), size2(c, a, p)).Cmp(size2(a, b, c)) == 0
	})
}

// wantCentre tells the place that is put in next.
func wantCentre(list []impl.V, ratio *big.Rat) (impl.V, bool) {
	points := pointsOf(list)
	tris := wantDelaunay(points)
	var best impl.V
	var greatest *big.Rat
	for _, s := range tris {
		a, b, c := points[s.A], points[s.B], points[s.C]
		centre, radius := circleOf(a, b, c)
		short := slices.MinFunc([]*big.Rat{square(a, b), square(b, c), square(c, a)}, (*big.Rat).Cmp)
		v, ok := centre.place()
		fits := ok && !slices.Contains(list, v) && isCovered(points, tris, centre)
		if radius.Cmp(timesRat(ratio, short)) > 0 && fits && (greatest == nil || radius.Cmp(greatest) > 0) {
			best, greatest = v, radius
		}
	}
	return best, greatest != nil
}

func wantRefined(list []impl.V, ratio *big.Rat, steps int64) []impl.V {
	list = slices.Clone(list)
	for range steps {
		v, ok := wantCentre(list, ratio)
		if !ok || len(list) == 30 {
			break
		}
		list = append(list, v)
	}
	return list
}

func checkRefine(t *testing.T, list []impl.V, ratio impl.Q, steps int64) []impl.V {
	t.Helper()
	got, ok := impl.Refine(list, ratio, steps)
	if want := wantRefined(list, rat(ratio), steps); !ok || !slices.Equal(got, want) {
		t.Fatal(list, "refined by", ratio, steps, "is", got, ok, "not", want)
	}
	return got[len(list):]
}

func TestRefineByHand(t *testing.T) {
	right, third, kite := lp(0, 0, 4, 0, 2, 2), q(1, 3), lp(0, 0, 4, 0, 2, 3, 2, -4)
	whisker := impl.V{X: q(20000000001, 10000000000), Y: q(-4, 1)}
	for _, c := range []struct {
		name  string
		list  []impl.V
		ratio impl.Q
		steps int64
		want  []impl.V
	}{
		{"no places", nil, third, 6, nil},
		{"one place", lp(1, 1), third, 6, nil},
		{"two places", lp(1, 1, 2, 5), third, 6, nil},
		{"on one line", lp(1, 1, 2, 2, 9, 9, 4, 4), q(1, top), 6, nil},
		{"no steps", right, q(1, top), 0, nil},
		// Here the square of the radius is 4, that of the shortest edge 8.
		{"just slim", right, q(top/2-1, top), 1, lp(2, 0)},
		{"just not slim", right, q(1, 2), 6, nil},
		// Then it is 2 for both triangles, and 4; and the first one is that with place 0.
		{"two as great", right, q(2, 5), 2, lp(2, 0, 1, 1)},
		{"two as great, the other way round", lp(4, 0, 0, 0, 2, 2), q(2, 5), 2, lp(2, 0, 3, 1)},
		{"both of them", right, q(2, 5), 3, lp(2, 0, 1, 1, 3, 1)},
		{"on an edge between two", box(0, 0, 4, 4), third, 1, lp(2, 2)},
		{"outside of all triangles", lp(0, 0, 10, 0, 5, 1), third, 6, nil},
		// The first triangle alone is slim.
		{"outside of its own triangle", lp(0, 0, 8, 0, 4, 2, 4, -9), q(1, 1), 1, lp(4, -3)},
		{"the greatest first", kite, q(1, 9), 1, []impl.V{{X: q(2, 1), Y: q(-3, 2)}}},
		{"a lesser one that alone is slim", lp(0, 0, 4, 0, 1, 3, 2, -4), q(9, 20), 1, lp(2, 1)},
		// The greatest circle has its centre below all places.
		{"the first that is within", lp(0, 0, 10, 0, 5, 1, 0, 12, 10, 12), q(1, 9), 1, []impl.V{{X: q(5, 1), Y: q(84, 11)}}},
		{"a centre that is no V", append(lp(0, 0, 4, 0, 2, 3), whisker), q(1, 9), 1, []impl.V{{X: q(2, 1), Y: q(5, 6)}}},
		{"a centre that is no V, in X", []impl.V{at(0, 0), swapped(whisker), at(3, 2), at(0, 4)}, q(1, 9), 1, []impl.V{{X: q(5, 6), Y: q(2, 1)}}},
		{"no centre that is a V", []impl.V{at(0, 0), whisker, at(4, 0)}, q(1, 9), 6, nil},
		{"great", lp(-top, -top, top, -top, 0, top), third, 1, lp(0, -top/4)},
		{"greater than all ratios", lp(0, 0, top, 0, 0, 1), q(top, 1), 1, []impl.V{{X: q(top/2, 1), Y: q(1, 2)}}},
	} {
		if got := checkRefine(t, c.list, c.ratio, c.steps); !slices.Equal(got, c.want) {
			t.Error(c.name, got)
		}
	}
}

func TestRefineMany(t *testing.T) {
	t.Parallel()
	var put [7]int
	for kind := range spotKinds {
		s := &spots{dice(770 + kind), kind}
		for range []int{60, 40, 20, 10, 10}[kind] {
			list := s.unlike(int(3 + s.next()%uint64([]int{7, 5, 4, 4, 4}[kind])))
			ratio := []impl.Q{q(1, 9), q(1, 3), q(1, 2), q(5, 9), q(1, 1), q(2, 1)}[s.next()%6]
			steps := int64(s.next() % 7)
			put[len(checkRefine(t, list, ratio, steps))]++
		}
	}
	if slices.Min(put[:]) < 1 || put[0] < 20 || put[1]+put[2]+put[3] < 20 {
		t.Error("too few of a kind", put)
	}
}

func TestRefineLimits(t *testing.T) {
	t.Parallel()
	most, tiny := grid(6, 5), q(1, top)
	for _, n := range []int{23, 24, 25, 29, 30} {
		if got, ok := impl.Refine(most[:n], tiny, 6); !ok || len(got) != min(n+6, 30) || !slices.Equal(got[:n], most[:n]) {
			t.Error(n, "places become", len(got), ok)
		}
	}
	if got, ok := impl.Refine(most[:29], tiny, 2); !ok || !slices.Equal(got, wantRefined(most[:29], rat(tiny), 2)) {
		t.Error("the last place that there may be", got, ok)
	}
	refused := func(name any, list []impl.V, ratio impl.Q, steps int64) {
		t.Helper()
		if got, ok := impl.Refine(list, ratio, steps); ok || len(got) != 0 {
			t.Error(name, "is taken:", got)
		}
	}
	list := lp(0, 0, 4, 0, 2, 2)
	refused("one place too many", append(most, at(9, 9)), tiny, 0)
	refused("two places the same", lp(0, 0, 4, 0, 2, 2, 4, 0), tiny, 0)
	for _, steps := range []int64{-1, 7, 1 << 62, -1 << 63} {
		refused(steps, list, tiny, steps)
		refused(steps, nil, tiny, steps)
	}
	for _, ratio := range append(brokenFractions(), q(0, 1), q(-1, 1), q(-1, top)) {
		refused(ratio, list, ratio, 1)
		refused(ratio, list, ratio, 0)
		refused(ratio, nil, ratio, 6)
	}
	for _, v := range brokenPlaces() {
		for i := range list {
			broken := slices.Clone(list)
			broken[i] = v
			refused(v, broken, tiny, 1)
			refused(v, broken, tiny, 0)
		}
	}
}
