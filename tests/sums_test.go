package tests

import (
	"math/big"
	"slices"
	"testing"

	"loop.example/g00022/impl"
)

// Promise 9: sums of convex loops.

func (p point) plus(o point) point { return point{plusRat(p.x, o.x), plusRat(p.y, o.y)} }

// wantSum goes on from the sum of the least places along the edges of both, in the order of their directions.
func wantSum(a, b []impl.V) ([]impl.V, bool) {
	edges := append(edgesOf([][]point{pointsOf(a)}), edgesOf([][]point{pointsOf(b)})...)
	way := func(e pointEdge) point { return point{minusRat(e.b.x, e.a.x), minusRat(e.b.y, e.a.y)} }
	// From straight down on, which comes last.
	late := func(e pointEdge) *big.Rat {
		turned := angle(way(e).x, way(e).y)
		if turned.Cmp(big.NewRat(3, 1)) > 0 {
			turned = minusRat(turned, big.NewRat(4, 1))
		}
		return turned
	}
	slices.SortStableFunc(edges, func(e, f pointEdge) int { return late(e).Cmp(late(f)) })
	p := pointOf(a[0]).plus(pointOf(b[0]))
	var corners []point
	for i, e := range edges {
		if i == 0 || late(edges[i-1]).Cmp(late(e)) != 0 {
			corners = append(corners, p)
		}
		p = p.plus(way(e))
	}
	if len(edges) == 0 {
		corners = []point{p}
	}
	return placesOf(corners)
}

func checkSum(t *testing.T, a, b []impl.V) ([]impl.V, bool) {
	t.Helper()
	want, fine := wantSum(a, b)
	got, ok := impl.Mink(a, b)
	if ok != fine || !slices.Equal(got, want) {
		t.Fatal("sum of", a, b, got, ok, "not", want, fine)
	}
	turned, ok := impl.Mink(b, a)
	if ok != fine || !slices.Equal(turned, want) {
		t.Fatal("sum of", b, a, turned, ok, "not", want, fine)
	}
	if ok {
		checkSumHolds(t, a, b, got)
	}
	return got, ok
}

// checkSumHolds: each corner is a sum of corners, all sums lie in it, and it is its own hull.
func checkSumHolds(t *testing.T, a, b, corners []impl.V) {
	t.Helper()
	var sums []point
	for _, v := range a {
		for _, w := range b {
			sums = append(sums, pointOf(v).plus(pointOf(w)))
		}
	}
	for i, v := range corners {
		p, next := pointOf(v), pointOf(corners[(i+1)%len(corners)])
		if !slices.ContainsFunc(sums, func(o point) bool { return o.cmp(p) == 0 }) {
			t.Fatal(v, "is no sum of", a, b)
		}
		if slices.ContainsFunc(sums, func(o point) bool { return side(p, next, o) < 0 }) {
			t.Fatal(corners, "have not all sums of", a, b)
		}
	}
	if again, ok := impl.Hull2(corners); !ok || !slices.Equal(again, corners) {
		t.Fatal("sum of", a, b, "is no hull", corners)
	}
}

func TestSumsByHand(t *testing.T) {
	sq, tri, other := box(0, 0, 1, 1), lp(0, 0, 2, 0, 0, 2), lp(0, 2, 2, 0, 2, 2)
	star := lp(-1, 0, 0, -1, 1, 0, 0, 1)
	for _, c := range []struct {
		name string
		a, b []impl.V
		want []impl.V
	}{
		{"two places", lp(1, 2), lp(3, -4), lp(4, -2)},
		{"a place and a segment", lp(1, 2), lp(0, 0, 5, 1), lp(1, 2, 6, 3)},
		{"a place and a triangle", lp(1, 2), tri, lp(1, 2, 3, 2, 1, 4)},
		{"a place and a square", lp(-3, 7), sq, box(-3, 7, -2, 8)},
		{"two segments of one direction", lp(0, 0, 2, 1), lp(0, 0, 4, 2), lp(0, 0, 6, 3)},
		{"two upright segments", lp(0, 0, 0, 1), lp(3, 3, 3, 5), lp(3, 3, 3, 6)},
		{"two level segments", lp(0, 0, 1, 0), lp(3, 3, 5, 3), lp(3, 3, 6, 3)},
		{"two segments that cross", lp(0, 0, 2, 0), lp(0, 0, 0, 3), box(0, 0, 2, 3)},
		{"two segments aslant", lp(0, 1, 1, 0), lp(0, 0, 1, 1), lp(0, 1, 1, 0, 2, 1, 1, 2)},
		{"a segment and a square", lp(0, 0, 3, 0), sq, box(0, 0, 4, 1)},
		{"an upright segment and a square", lp(0, 0, 0, 3), sq, box(0, 0, 1, 4)},
		{"a slanted segment and a square", lp(0, 0, 3, 3), sq, lp(0, 0, 1, 0, 4, 3, 4, 4, 3, 4, 0, 1)},
		{"a falling segment and a square", lp(0, 3, 3, 0), sq, lp(0, 3, 3, 0, 4, 0, 4, 1, 1, 4, 0, 4)},
		{"two squares", sq, box(2, 3, 5, 7), box(2, 3, 6, 8)},
		{"a square and itself", sq, sq, box(0, 0, 2, 2)},
		{"a triangle and itself", tri, tri, lp(0, 0, 4, 0, 0, 4)},
		{"a triangle and its opposite", tri, other, lp(0, 2, 2, 0, 4, 0, 4, 2, 2, 4, 0, 4)},
		{"a square and a triangle", sq, tri, lp(0, 0, 3, 0, 3, 1, 1, 3, 0, 3)},
		{"a square and one on its corner", sq, star, lp(-1, 0, 0, -1, 1, -1, 2, 0, 2, 1, 1, 2, 0, 2, -1, 1)},
		{"one on its corner and itself", star, star, lp(-2, 0, 0, -2, 2, 0, 0, 2)},
		{"a bowl and its lid", bowl(4), lp(0, 0, 3, 9), lp(0, 0, 1, 1, 5, 13, 6, 18)},
		{"great", lp(-top, -top), box(0, 0, top, top), box(-top, -top, 0, 0)},
		{"great, just", box(0, 0, top-1, top-1), lp(0, 0, 1, 1), lp(0, 0, top-1, 0, top, 1, top, top, 1, top, 0, top-1)},
	} {
		got, ok := checkSum(t, c.a, c.b)
		if !ok || !slices.Equal(got, c.want) {
			t.Error(c.name, got, ok, "not", c.want)
		}
	}
}

func TestSumsThatAreNoPlace(t *testing.T) {
	const fine = 1000000001
	for _, c := range [][2][]impl.V{
		{lp(top, 0), lp(1, 0)}, {lp(0, top), lp(0, 1)}, {lp(-top, 0), lp(-1, 0)}, {box(0, 0, top, 1), lp(0, 0, 1, 0)}, {box(-1, -top, 0, 0), lp(0, -1, 1, 1)},
		{{{X: q(1, fine), Y: q(0, 1)}}, {{X: q(1, fine+2), Y: q(0, 1)}}},
	} {
		if got, ok := checkSum(t, c[0], c[1]); ok {
			t.Error(c, "have a corner that is no V", got)
		}
	}
	// To the left the one, to the right the other has a fraction, which together are no Q: that sum lies within.
	left := []impl.V{{X: q(0, 1), Y: q(1, fine)}, at(4, -4), at(4, 4)}
	right := []impl.V{at(0, -4), {X: q(4, 1), Y: q(1, fine+2)}, at(0, 4)}
	if got, ok := checkSum(t, left, right); !ok || len(got) != 6 {
		t.Error("a sum within that is no V", got, ok)
	}
	if got, ok := checkSum(t, left, halfTurned(right)); ok {
		t.Error("a sum at a corner that is no V", got)
	}
}

// halfTurned turns a loop round by half a turn, with the least place first.
func halfTurned(loop []impl.V) []impl.V {
	var out []impl.V
	for _, v := range loop {
		out = append(out, impl.V{X: q(-v.X.Num, v.X.Den), Y: q(-v.Y.Num, v.Y.Den)})
	}
	return wantHull(out)
}

func TestSumsMany(t *testing.T) {
	fine, refused := 0, 0
	for kind := range spotKinds {
		s := &spots{dice(990 + kind), kind}
		loop := func() []impl.V {
			var list []impl.V
			for range 1 + s.next()%8 {
				list = append(list, s.place())
			}
			return wantHull(list)
		}
		for range []int{150, 80, 50, 50, 30}[kind] {
			a := loop()
			b := loop()
			if s.next()%4 == 0 {
				b = halfTurned(a)
			}
			if _, ok := checkSum(t, a, b); ok {
				fine++
			} else {
				refused++
			}
		}
	}
	if fine < 150 || refused < 60 {
		t.Error("too few of a kind", fine, refused)
	}
}

func TestSumsRefused(t *testing.T) {
	sq := box(0, 0, 4, 4)
	refused := func(name any, list []impl.V) {
		t.Helper()
		for _, other := range [][]impl.V{sq, lp(1, 1), nil, list} {
			if got, ok := impl.Mink(list, other); ok || len(got) != 0 {
				t.Error(name, "and", other, "have a sum", got, ok)
			}
			if got, ok := impl.Mink(other, list); ok || len(got) != 0 {
				t.Error(other, "and", name, "have a sum", got, ok)
			}
		}
	}
	refused("none", nil)
	refused("two alike", lp(1, 1, 1, 1))
	refused("two, the greater first", lp(2, 1, 1, 1))
	refused("two, the upper first", lp(1, 2, 1, 1))
	refused("41 places", bowl(41))
	for _, list := range notOwnHulls() {
		refused(list, list)
	}
	for _, v := range brokenPlaces() {
		refused(v, []impl.V{v})
		refused(v, []impl.V{at(0, 0), v})
		refused(v, []impl.V{v, at(2, 2)})
	}
	if got, ok := checkSum(t, bowl(40), lp(0, 0)); !ok || !slices.Equal(got, bowl(40)) {
		t.Error("40 places and one", got, ok)
	}
	if got, ok := checkSum(t, bowl(40), bowl(40)); !ok || len(got) != 40 {
		t.Error("40 places and themselves", got, ok)
	}
	if got, ok := checkSum(t, bowl(40), halfTurned(bowl(40))); !ok || len(got) != 78 {
		t.Error("40 places and 40 turned round", got, ok)
	}
}
