package tests

import (
	"math/big"
	"slices"
	"testing"

	"loop.example/g00022/impl"
)

// Promise 18: which rules places do not meet, groups of places, places that are drawn elsewhere.

// wantUnmet goes by the table's words.
func wantUnmet(s impl.Sketch, places []impl.V) []int64 {
	var list []int64
	for i, r := range s.Rules {
		if slices.ContainsFunc(lacksOf(r, xysOf(places)), func(lack *big.Rat) bool { return lack.Sign() != 0 }) {
			list = append(list, int64(i))
		}
	}
	return list
}

func checkUnmet(t *testing.T, name any, s impl.Sketch, places []impl.V) []int64 {
	t.Helper()
	got, ok := impl.Unmet(s, places)
	if want := wantUnmet(s, places); !ok || !slices.Equal(got, want) {
		t.Error(name, s, "leaves", got, ok, "unmet by", places, "not", want)
	}
	return got
}

func TestUnmetByHand(t *testing.T) {
	all := oneOfEach()
	for _, c := range []struct {
		name   string
		s      impl.Sketch
		places []impl.V
		want   []int64
	}{
		{"no rules", sk(2), lp(1, 2, 3, 4), nil},
		{"met", sk(2, rl(impl.RuStep, 0, 1, 2, 2)), lp(1, 2, 3, 4), nil},
		{"not the x", sk(2, rl(impl.RuStep, 0, 1, 1, 2)), lp(1, 2, 3, 4), []int64{0}},
		{"not the y", sk(2, rl(impl.RuStep, 0, 1, 2, 1)), lp(1, 2, 3, 4), []int64{0}},
		{"neither", sk(2, rl(impl.RuStep, 0, 1, 1, 1)), lp(1, 2, 3, 4), []int64{0}},
		{"some of several", sk(2, rl(impl.RuX, 0, 1), rl(impl.RuX, 0, 2), rl(impl.RuY, 0, 2), rl(impl.RuY, 0, 3), rl(impl.RuAt, 1, 3, 4)), lp(1, 2, 3, 4), []int64{1, 3}},
		{"rules that clash", sk(1, rl(impl.RuX, 0, 1), rl(impl.RuX, 0, 2)), lp(5, 5), []int64{0, 1}},
		{"one never to be", sk(1, rl(impl.RuDx, 0, 0, 1), rl(impl.RuSame, 0, 0)), lp(5, 5), []int64{0}},
		{"a middle by its x alone", sk(3, rl(impl.RuMid, 0, 2, 1)), lp(0, 0, 1, 1, 2, 3), []int64{0}},
		{"a middle by its y alone", sk(3, rl(impl.RuMid, 0, 2, 1)), lp(0, 0, 1, 1, 3, 2), []int64{0}},
		{"a middle", sk(3, rl(impl.RuMid, 0, 2, 1)), []impl.V{at(0, 0), {X: q(1, 2), Y: q(3, 2)}, at(1, 3)}, nil},
		{"along", sk(2, rl(impl.RuAlong, 0, 1, 2, 3)), lp(1, 1, -3, -5), nil},
		{"not along", sk(2, rl(impl.RuAlong, 0, 1, 3, 2)), lp(1, 1, -3, -5), []int64{0}},
		{"a ratio", sk(3, withA(rl(impl.RuRatio, 0, 1, 2, 0), q(-1, 2))), lp(1, 1, 5, 3, -1, 0), nil},
		{"a ratio of the way back", sk(3, withA(rl(impl.RuRatio, 1, 0, 2, 0), q(-1, 2))), lp(1, 1, 5, 3, -1, 0), []int64{0}},
		{"equal", sk(4, rl(impl.RuEqual, 0, 1, 2, 3)), lp(1, 1, 2, 3, 7, 7, 8, 9), nil},
		{"opposite", sk(4, rl(impl.RuEqual, 0, 1, 3, 2)), lp(1, 1, 2, 3, 7, 7, 8, 9), []int64{0}},
		{"one of each, far off", sk(4, all...), lp(100, 301, 250, 517, 371, 899, 412, 903), upToCount(11)},
		{"a little off", sk(1, rl(impl.RuX, 0, 1)), []impl.V{{X: q(top, top-1), Y: q(0, 1)}}, []int64{0}},
	} {
		if got := checkUnmet(t, c.name, c.s, c.places); !slices.Equal(got, c.want) {
			t.Error(c.name, "leaves", got, "not", c.want)
		}
	}
	// Each rule is met by places of its own, and missed by others.
	for i, r := range all {
		a, ok := impl.Solve(sk(4, r), lp(0, 0, 9, 1, 3, 8, 2, 7))
		if !ok || len(checkUnmet(t, r, sk(4, r), a.Places)) > 0 || !slices.Contains(checkUnmet(t, r, sk(4, all...), lp(100, 301, 250, 517, 371, 899, 412, 903)), int64(i)) {
			t.Error(r, "by", a, ok)
		}
	}
}

func TestUnmetMany(t *testing.T) {
	d := dice(184)
	for i := range 600 {
		points := 1 + int64(i%8)
		s := d.sketch(points, int(d.next()%17), i%3)
		checkUnmet(t, i, s, d.places(points, 2))
	}
}

// wantGroups goes from place to place by the rules that name both.
func wantGroups(s impl.Sketch) [][]int64 {
	named := func(r impl.Rule) []int64 {
		var list []int64
		for _, name := range kindNames[r.Kind] {
			if p := positionOf(&r, name); p != nil {
				list = append(list, *p)
			}
		}
		return list
	}
	var groups [][]int64
	gone := map[int64]bool{}
	for i := range s.Points {
		if gone[i] {
			continue
		}
		group := []int64{i}
		gone[i] = true
		for k := 0; k < len(group); k++ {
			for _, r := range s.Rules {
				if !slices.Contains(named(r), group[k]) {
					continue
				}
				for _, p := range named(r) {
					if !gone[p] {
						gone[p] = true
						group = append(group, p)
					}
				}
			}
		}
		slices.Sort(group)
		groups = append(groups, group)
	}
	return groups
}

func sameGroups(a, b [][]int64) bool { return slices.EqualFunc(a, b, slices.Equal) }

func checkGroups(t *testing.T, name any, s impl.Sketch) [][]int64 {
	t.Helper()
	got, ok := impl.PartsOf(s)
	if want := wantGroups(s); !ok || !sameGroups(got, want) {
		t.Error(name, s, "has the parts", got, ok, "not", want)
	}
	return got
}

func TestPartsByHand(t *testing.T) {
	for _, c := range []struct {
		name string
		s    impl.Sketch
		want [][]int64
	}{
		{"one place", sk(1), [][]int64{{0}}},
		{"no rules", sk(3), [][]int64{{0}, {1}, {2}}},
		{"most places", sk(8), [][]int64{{0}, {1}, {2}, {3}, {4}, {5}, {6}, {7}}},
		{"rules about one place", sk(3, rl(impl.RuAt, 0, 1, 1), rl(impl.RuX, 1, 1), rl(impl.RuY, 2, 1), rl(impl.RuSame, 1, 1)), [][]int64{{0}, {1}, {2}}},
		{"step", sk(3, rl(impl.RuStep, 2, 0, 1, 1)), [][]int64{{0, 2}, {1}}},
		{"dx", sk(3, rl(impl.RuDx, 2, 1, 1)), [][]int64{{0}, {1, 2}}},
		{"dy", sk(3, rl(impl.RuDy, 0, 1, 1)), [][]int64{{0, 1}, {2}}},
		{"same", sk(4, rl(impl.RuSame, 3, 1)), [][]int64{{0}, {1, 3}, {2}}},
		{"middle", sk(5, rl(impl.RuMid, 4, 1, 3)), [][]int64{{0}, {1, 3, 4}, {2}}},
		{"middle of one", sk(5, rl(impl.RuMid, 4, 4, 3)), [][]int64{{0}, {1}, {2}, {3, 4}}},
		{"along", sk(4, rl(impl.RuAlong, 3, 0, 1, 0)), [][]int64{{0, 3}, {1}, {2}}},
		{"equal", sk(6, rl(impl.RuEqual, 5, 3, 1, 2)), [][]int64{{0}, {1, 2, 3, 5}, {4}}},
		{"ratio", sk(5, rl(impl.RuRatio, 3, 1, 0, 2)), [][]int64{{0, 1, 3}, {2}, {4}}},
		{"ratio 0", sk(5, rl(impl.RuRatio, 3, 1, 0, 0)), [][]int64{{0, 1, 3}, {2}, {4}}},
		{"a chain", sk(4, rl(impl.RuSame, 0, 1), rl(impl.RuSame, 1, 2), rl(impl.RuSame, 2, 3)), [][]int64{{0, 1, 2, 3}}},
		{"a chain from behind", sk(4, rl(impl.RuSame, 2, 3), rl(impl.RuSame, 1, 2), rl(impl.RuSame, 0, 1)), [][]int64{{0, 1, 2, 3}}},
		{"chains that come together late", sk(8, rl(impl.RuSame, 7, 5), rl(impl.RuSame, 0, 2), rl(impl.RuSame, 3, 1), rl(impl.RuSame, 5, 3), rl(impl.RuSame, 2, 4), rl(impl.RuSame, 4, 7)), [][]int64{{0, 1, 2, 3, 4, 5, 7}, {6}}},
		{"two chains", sk(8, rl(impl.RuSame, 7, 5), rl(impl.RuSame, 0, 6), rl(impl.RuSame, 3, 5), rl(impl.RuSame, 2, 6), rl(impl.RuSame, 6, 4)), [][]int64{{0, 2, 4, 6}, {1}, {3, 5, 7}}},
		{"rules that clash", sk(3, rl(impl.RuStep, 0, 2, 1, 1), rl(impl.RuSame, 0, 2)), [][]int64{{0, 2}, {1}}},
		{"rules that follow", sk(3, rl(impl.RuAt, 0, 1, 1), rl(impl.RuAt, 2, 1, 1), rl(impl.RuSame, 0, 2)), [][]int64{{0, 2}, {1}}},
	} {
		if got := checkGroups(t, c.name, c.s); !sameGroups(got, c.want) {
			t.Error(c.name, "has the parts", got, "not", c.want)
		}
	}
}

func TestPartsMany(t *testing.T) {
	d := dice(185)
	for i := range 500 {
		points := 1 + int64(i%8)
		checkGroups(t, i, d.sketch(points, int(d.next()%7), 2))
	}
}

// wantDrag goes by the document's words, in big numbers.
func wantDrag(s impl.Sketch, places []impl.V, i int64, to impl.V, steps int64) ([][]impl.V, bool) {
	if steps < 1 || steps > 6 || !impl.VOk(to) || i < 0 || i >= s.Points {
		return nil, false
	}
	if _, ok := wantSolve(sk(s.Points), places); !ok {
		return nil, false
	}
	from, end, before := pointOf(places[i]), pointOf(to), places
	var list [][]impl.V
	for k := int64(1); k <= steps; k++ {
		part := big.NewRat(k, steps)
		start, ok := slices.Clone(before), false
		start[i], ok = point{
			plusRat(from.x, timesRat(part, minusRat(end.x, from.x))),
			plusRat(from.y, timesRat(part, minusRat(end.y, from.y))),
		}.place()
		if !ok {
			return nil, false
		}
		a, ok := wantSolve(s, start)
		if !ok || len(a.Places) == 0 {
			return nil, false
		}
		list = append(list, a.Places)
		before = a.Places
	}
	return list, true
}

func checkDrag(t *testing.T, name any, s impl.Sketch, places []impl.V, i int64, to impl.V, steps int64) ([][]impl.V, bool) {
	t.Helper()
	got, ok := impl.Drag(s, places, i, to, steps)
	want, wantOk := wantDrag(s, places, i, to, steps)
	if ok != wantOk || !sameLoops(got, want) {
		t.Error(name, s, "drawn from", places, i, "to", to, "in", steps, "is", got, ok, "not", want, wantOk)
	}
	for _, list := range got {
		if unmet, ok := impl.Unmet(s, list); !ok || len(unmet) > 0 {
			t.Error(name, "leaves unmet", unmet, ok)
		}
	}
	return got, ok
}

func TestDragByHand(t *testing.T) {
	pair, bound := lp(0, 0, 2, 0), sk(2, rl(impl.RuStep, 0, 1, 2, 0))
	for _, c := range []struct {
		name   string
		s      impl.Sketch
		places []impl.V
		i      int64
		to     impl.V
		steps  int64
		want   [][]impl.V
	}{
		{"alone, one step", sk(2), pair, 1, at(6, 3), 1, lps(lp(0, 0, 6, 3))},
		{"alone, three steps", sk(2), pair, 0, at(6, 3), 3, lps(lp(2, 1, 2, 0), lp(4, 2, 2, 0), lp(6, 3, 2, 0))},
		{"drawing another along", bound, pair, 1, at(2, 4), 1, lps(lp(0, 2, 2, 2))},
		{"in two steps", bound, pair, 1, at(2, 4), 2, lps(lp(0, 1, 2, 1), halfLoop(0, 5, 4, 5))},
		{"to where it is", bound, pair, 1, at(2, 0), 3, lps(pair, pair, pair)},
		{"a place that is fixed", sk(2, rl(impl.RuAt, 0, 0, 0)), pair, 0, at(5, 5), 2, lps(pair, pair)},
		{"one that is fixed by another", sk(2, rl(impl.RuAt, 0, 0, 0), rl(impl.RuStep, 0, 1, 2, 0)), pair, 1, at(5, 5), 2, lps(pair, pair)},
		{"one that is fixed by its x", sk(2, rl(impl.RuX, 1, 2)), pair, 1, at(6, 4), 2, lps(lp(0, 0, 2, 2), lp(0, 0, 2, 4))},
		{"rules not met at first", sk(2, rl(impl.RuSame, 0, 1)), lp(0, 0, 8, 0), 0, at(4, 4), 2,
			// From (2, 2) and (8, 0) to (5, 1); then from (4, 4) and (5, 1).
			lps(lp(5, 1, 5, 1), halfLoop(9, 5, 9, 5))},
		{"the way is from where it was, not from where it came to", sk(1, rl(impl.RuY, 0, 7)), lp(0, 0), 0, at(6, 0), 2, lps(lp(3, 7), lp(6, 7))},
		{"one beside it", sk(3, rl(impl.RuSame, 0, 2)), lp(0, 0, 1, 1, 0, 0), 1, at(3, 3), 2, lps(lp(0, 0, 2, 2, 0, 0), lp(0, 0, 3, 3, 0, 0))},
	} {
		if got, ok := checkDrag(t, c.name, c.s, c.places, c.i, c.to, c.steps); !ok || !sameLoops(got, c.want) {
			t.Error(c.name, "is", got, ok, "not", c.want)
		}
	}
	if list, ok := checkDrag(t, "most steps", bound, pair, 0, at(6, 6), 6); !ok || len(list) != 6 {
		t.Error("most steps", list, ok)
	}
}

func TestDragRefused(t *testing.T) {
	pair, bound := lp(0, 0, 2, 0), sk(2, rl(impl.RuStep, 0, 1, 2, 0))
	refused := func(name any, s impl.Sketch, places []impl.V, i int64, to impl.V, steps int64) {
		t.Helper()
		if list, ok := checkDrag(t, name, s, places, i, to, steps); ok || len(list) > 0 {
			t.Error(name, "is", list, ok)
		}
	}
	for _, steps := range []int64{0, -1, 7, 8, -1 << 63, 1<<63 - 1} {
		refused(steps, bound, pair, 0, at(1, 1), steps)
	}
	for _, i := range []int64{-1, 2, 3, -1 << 63, 1<<63 - 1} {
		refused(i, bound, pair, i, at(1, 1), 1)
	}
	for _, bad := range brokenPlaces() {
		refused(bad, bound, pair, 0, bad, 1)
		for k := range pair {
			wrong := slices.Clone(pair)
			wrong[k] = bad
			for i := range int64(2) {
				refused(bad, bound, wrong, i, at(1, 1), 2)
			}
		}
	}
	refused("too few", bound, pair[:1], 0, at(1, 1), 1)
	refused("too many", bound, lp(0, 0, 2, 0, 3, 3), 0, at(1, 1), 1)
	refused("too many, and that one", bound, lp(0, 0, 2, 0, 3, 3), 2, at(1, 1), 1)
	refused("none", bound, nil, 0, at(1, 1), 1)
	refused("a clash", sk(2, rl(impl.RuX, 0, 1), rl(impl.RuX, 0, 2)), pair, 0, at(1, 1), 1)
	refused("one never to be", sk(2, rl(impl.RuDx, 1, 1, 1)), pair, 0, at(1, 1), 1)
	// A start on the way that is no V, though both ends are, and all that is solved would be.
	fine := []impl.V{{X: q(1, top), Y: q(0, 1)}}
	held := sk(1, rl(impl.RuX, 0, 3))
	refused("a start too fine", held, fine, 0, at(0, 0), 2)
	if list, ok := checkDrag(t, "in one step", held, fine, 0, at(0, 0), 1); !ok || !sameLoops(list, lps(lp(3, 0))) {
		t.Error("in one step", list, ok)
	}
	// A way of which the end is no V, from one place to the other.
	wide := []impl.V{{X: q(top, 1), Y: q(0, 1)}}
	if list, ok := checkDrag(t, "from far to far", sk(1), wide, 0, impl.V{X: q(-top, 1), Y: q(0, 1)}, 2); !ok || list[0][0] != at(0, 0) {
		t.Error("from far to far", list, ok)
	}
	// What is solved is no V in the first step, and in the last one alone.
	high := sk(2, rl(impl.RuStep, 0, 1, 0, 2))
	near := []impl.V{{X: q(0, 1), Y: q(top-2, 1)}, {X: q(0, 1), Y: q(top, 1)}}
	refused("too high at once", high, near, 0, impl.V{X: q(0, 1), Y: q(top, 1)}, 1)
	low := []impl.V{{X: q(0, 1), Y: q(top-6, 1)}, {X: q(0, 1), Y: q(top-4, 1)}}
	refused("no V in the last of two", high, low, 0, impl.V{X: q(0, 1), Y: q(top-2, 1)}, 2)
	if list, ok := checkDrag(t, "the first of these two", high, low, 0, impl.V{X: q(0, 1), Y: q(top-4, 1)}, 1); !ok || len(list) != 1 {
		t.Error("the first of these two", list, ok)
	}
}

func TestDragMany(t *testing.T) {
	t.Parallel()
	d := dice(186)
	drawn := 0
	for i := range 150 {
		points := 1 + int64(i%5)
		s, places := d.sketch(points, int(d.next()%6), i%2), d.places(points, 9)
		k, steps := int64(d.next()%uint64(points)), 1+int64(d.next()%6)
		if _, ok := checkDrag(t, i, s, places, k, d.places(1, 9)[0], steps); ok {
			drawn++
		}
	}
	if drawn < 80 {
		t.Error("too few", drawn)
	}
}
