package tests

import (
	"math/big"
	"slices"
	"testing"

	"loop.example/g00022/impl"
)

// Promise 13: profiles that are turned about the Z axis.

// inDirection tells where a profile goes, in big numbers.
func inDirection(profile []impl.V, t impl.Q) []point3 {
	one, square := big.NewRat(1, 1), timesRat(rat(t), rat(t))
	by := new(big.Rat).Inv(plusRat(one, square))
	x, y := timesRat(minusRat(one, square), by), timesRat(plusRat(rat(t), rat(t)), by)
	var list []point3
	for _, v := range profile {
		list = append(list, point3{timesRat(rat(v.X), x), timesRat(rat(v.X), y), rat(v.Y)})
	}
	return list
}

// wantRevolved makes rooms of all planes of the steps' hulls, and takes those that are in a step.
func wantRevolved(profile []impl.V, ts []impl.Q) (impl.Solid, bool) {
	var steps []impl.Solid
	for i := range ts[1:] {
		var places []impl.V3
		for _, p := range slices.Concat(inDirection(profile, ts[i]), inDirection(profile, ts[i+1])) {
			v, ok := p.place()
			if !ok {
				return impl.Solid{}, false
			}
			places = append(places, v)
		}
		step, ok := wantHull3(places)
		if !ok || len(places) > 14 {
			return impl.Solid{}, false
		}
		steps = append(steps, step)
	}
	isBehind := func(s impl.Solid, p point3) bool {
		return !slices.ContainsFunc(s.Faces, func(f impl.Face) bool { return over(f.Plane, p).Sign() > 0 })
	}
	all := roomsOf(steps)
	return all.skin(all.within(func(p point3) bool {
		return slices.ContainsFunc(steps, func(s impl.Solid) bool { return isBehind(s, p) })
	}))
}

func checkRevolved(t *testing.T, name any, profile []impl.V, ts []impl.Q) (impl.Solid, bool) {
	t.Helper()
	want, fine := wantRevolved(profile, ts)
	got, ok := impl.Revolve(profile, ts)
	if ok != fine || !sameSolids(got, want) {
		t.Fatal(name, "turned through", ts, "is", got, ok, "not", want, fine)
	}
	if ok && !impl.SolidOk(got) {
		t.Fatal(name, "turned through", ts, "is no solid:", got)
	}
	return got, ok
}

func fractionsOf(den int64, nums ...int64) []impl.Q {
	var list []impl.Q
	for _, n := range nums {
		f, _ := asQ(big.NewRat(n, den))
		list = append(list, f)
	}
	return list
}

// profileOf is a convex loop of n places, 3 to 8, of which one edge is level.
func profileOf(n int) []impl.V {
	all := lp(1, 0, 3, 0, 5, 1, 6, 3, 5, 5, 3, 6, 2, 5, 1, 3)
	return all[:n]
}

func TestRevolved(t *testing.T) {
	t.Parallel()
	turns := map[string][]impl.Q{
		"a quarter in one": fractionsOf(1, 0, 1), "a quarter in two": fractionsOf(2, 0, 1, 2), "a quarter in four": fractionsOf(4, 0, 1, 2, 3, 4),
		"a part": fractionsOf(7, 2, 3), "a part in three": fractionsOf(9, 1, 2, 5, 7), "a small part": fractionsOf(1000, 500, 501), "a first part": fractionsOf(3, 0, 1), "a last part": fractionsOf(3, 2, 3),
		"unlike parts": {q(0, 1), q(1, 1000), q(1, 2), q(999, 1000), q(1, 1)},
	}
	for name, ts := range turns {
		for n := 3; n <= 7; n++ {
			if n > 4 && len(ts) > 3 {
				continue
			}
			profile, ok := impl.Hull2(profileOf(n))
			if !ok || len(profile) != n {
				t.Fatal("no profile of", n, profile)
			}
			s, ok := checkRevolved(t, name, profile, ts)
			if !ok {
				t.Error(name, "of", n, "is refused")
			}
			// Each step has a side for each edge, but those of the level edge are one face; two more are where it begins and ends.
			if len(s.Faces) != (n-1)*(len(ts)-1)+3 {
				t.Error(name, "of", n, "has", len(s.Faces), "faces")
			}
		}
	}
	// All ts and all places that there may be.
	most, _ := impl.Hull2(profileOf(7))
	if s, ok := impl.Revolve(most, fractionsOf(4, 0, 1, 2, 3, 4)); !ok || len(s.Faces) != 6*4+3 {
		t.Error("the most", len(s.Faces), ok)
	}
	if s, ok := impl.Revolve(profileOf(8), fractionsOf(4, 0, 1)); !isNoSolid(s, ok) {
		t.Error("8 places", s)
	}
}

func TestRevolvedByHand(t *testing.T) {
	square := box(1, 0, 2, 1)
	f := func(p impl.Plane, loop []impl.V) impl.Face { return impl.Face{Plane: p, Region: region(loop)} }
	want := impl.Solid{Faces: []impl.Face{
		f(pl(-1, -1, 0, -1), box(0, 0, 1, 1)),
		f(pl(-1, 0, 0, 0), box(1, 0, 2, 1)),
		f(pl(0, -1, 0, 0), box(1, 0, 2, 1)),
		f(pl(0, 0, -1, 0), lp(0, 1, 1, 0, 2, 0, 0, 2)),
		f(pl(0, 0, 1, 1), lp(0, 1, 1, 0, 2, 0, 0, 2)),
		f(pl(1, 1, 0, 2), box(0, 0, 2, 1)),
	}}
	if s, ok := impl.Revolve(square, fractionsOf(1, 0, 1)); !ok || !sameSolids(s, want) {
		t.Error("a quarter", s, ok, "not", want)
	}
	s, ok := impl.Revolve(square, fractionsOf(2, 0, 1, 2))
	if !ok || len(s.Faces) != 8 {
		t.Error("in two", len(s.Faces), ok)
	}
	for v, where := range map[impl.V3]int64{
		{X: q(6, 5), Y: q(8, 5), Z: q(0, 1)}: impl.WhereOn, {X: q(3, 5), Y: q(4, 5), Z: q(1, 2)}: impl.WhereOn, {X: q(9, 10), Y: q(6, 5), Z: q(1, 2)}: impl.WhereIn,
		{X: q(7, 5), Y: q(1, 5), Z: q(1, 2)}: impl.WhereIn, {X: q(1, 2), Y: q(1, 2), Z: q(1, 2)}: impl.WhereOut, {X: q(0, 1), Y: q(3, 2), Z: q(1, 2)}: impl.WhereOn,
	} {
		if got := impl.Inside(s, v); got != where {
			t.Error(v, "is", got, "not", where)
		}
	}
}

func TestRevolvedMany(t *testing.T) {
	t.Parallel()
	good, bad := 0, 0
	d := dice(180)
	for n := range 60 {
		size := []int64{5, 5, 40, 100000000}[n%4]
		var list []impl.V
		for range 3 + d.next()%5 {
			list = append(list, impl.V{X: q(1+int64(d.next()%uint64(size)), 1), Y: q(d.upTo(size), 1)})
		}
		profile := wantHull(list)
		var ts []impl.Q
		for range 2 + d.next()%2 {
			f, _ := asQ(big.NewRat(int64(d.next()%uint64(size+1)), size))
			ts = append(ts, f)
		}
		slices.SortFunc(ts, func(a, b impl.Q) int { return rat(a).Cmp(rat(b)) })
		if ts = slices.Compact(ts); len(profile) < 3 || len(ts) < 2 {
			continue
		}
		if _, ok := checkRevolved(t, n, profile, ts); ok {
			good++
		} else {
			bad++
		}
	}
	if good < 15 || bad < 5 {
		t.Error("too few of a kind:", good, bad)
	}
}

func TestRevolvedRefused(t *testing.T) {
	square, quarter := box(1, 0, 2, 1), fractionsOf(1, 0, 1)
	refused := func(name any, profile []impl.V, ts []impl.Q) {
		t.Helper()
		if s, ok := impl.Revolve(profile, ts); !isNoSolid(s, ok) {
			t.Error(name, "is turned to", s)
		}
	}
	for name, profile := range map[string][]impl.V{
		"nothing": nil, "one place": lp(1, 1), "two places": lp(1, 1, 2, 3), "three on one line": lp(1, 1, 2, 2, 3, 3), "turned round": backward(square), "begun elsewhere": begun(square, 1),
		"a place on an edge": slices.Insert(slices.Clone(square), 1, impl.V{X: q(3, 2), Y: q(0, 1)}), "a place twice": slices.Insert(slices.Clone(square), 1, at(1, 0)),
		"not convex": lp(1, 0, 4, 0, 2, 1, 1, 4), "crossing itself": lp(1, 0, 4, 4, 4, 0, 1, 4), "on the axis": box(0, 0, 2, 1), "over the axis": box(-1, 0, 2, 1), "beyond the axis": box(-2, 0, -1, 1),
		"a corner on the axis": lp(0, 1, 3, 0, 3, 3), "nearly on the axis, too long": {impl.V{X: q(1, top), Y: q(0, 1)}, impl.V{X: q(1, 1), Y: q(0, 1)}, impl.V{X: q(1, 1), Y: q(1, 1)}}, "many places": slices.Repeat(square, 1000),
	} {
		ts := fractionsOf(3, 0, 1)
		refused(name, profile, ts)
	}
	if s, ok := checkRevolved(t, "nearly on the axis", []impl.V{{X: q(1, 1000000), Y: q(0, 1)}, at(1, 0), at(1, 1)}, quarter); !ok || len(s.Faces) != 5 {
		t.Error("nearly on the axis", s, ok)
	}
	for name, ts := range map[string][]impl.Q{
		"nothing": nil, "one": fractionsOf(1, 0), "six": fractionsOf(5, 0, 1, 2, 3, 4, 5), "many": slices.Repeat(quarter, 1000), "alike": fractionsOf(2, 1, 1), "alike at the end": fractionsOf(2, 0, 1, 1), "descending": fractionsOf(2, 1, 0),
		"descending later": fractionsOf(4, 0, 2, 1), "below 0": fractionsOf(2, -1, 1), "a little below 0": {q(-1, top), q(1, 2)}, "all below 0": fractionsOf(4, -3, -2), "above 1": fractionsOf(2, 0, 1, 3), "a little above 1": {q(0, 1), q(top, top-1)}, "all above 1": fractionsOf(1, 2, 3),
	} {
		refused(name, square, ts)
	}
	for _, f := range brokenFractions() {
		for k := range 3 {
			refused(f, square, slices.Insert(fractionsOf(2, 0, 1, 2), k, f))
			ts := fractionsOf(2, 0, 1, 2)
			ts[k] = f
			refused(f, square, ts)
			refused(f, square, append(quarter[:k%2:k%2], f))
		}
		for k := range square {
			one, two := slices.Clone(square), slices.Clone(square)
			one[k].X, two[k].Y = f, f
			refused(f, one, quarter)
			refused(f, two, quarter)
		}
	}
	// A place that is no V3 when it is turned, though all numbers are fine; of a plane's the numbers alone.
	for name, ts := range map[string][]impl.Q{"the first": {q(1, 1000000007), q(1, 1)}, "the last": {q(0, 1), q(999999937, 1000000007)}, "in the midst": {q(0, 1), q(1, 1000000007), q(1, 1)}} {
		refused(name, square, ts)
		checkRevolved(t, name, square, ts)
	}
	long := []impl.V{{X: q(1, 1000000007), Y: q(0, 1)}, {X: q(3, 998244353), Y: q(1, 999999937)}, {X: q(1, 1000000007), Y: q(1, 7)}}
	if _, ok := checkRevolved(t, "long numbers", wantHull(long), fractionsOf(2, 0, 1)); ok {
		t.Error("a plane has numbers that are no Q")
	}
}
