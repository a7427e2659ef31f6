package tests

import (
	"slices"
	"testing"

	"loop.example/g00022/impl"
)

// Promise 19: an edge between two places that are one is no side of a prism, and names no face.

// drawn is a prism from 0 to 1 with the Id 1 over these numbers, two a place.
func drawn(numbers ...impl.Term) impl.Feat {
	return impl.Feat{Id: 1, Kind: impl.FtPrism, Nums: append([]impl.Term{con(0), con(1)}, numbers...)}
}

func roles(list ...int64) []impl.Name {
	var names []impl.Name
	for _, r := range list {
		names = append(names, nm(1, r))
	}
	return names
}

// nooseCase is a prism of one parameter: with 1 it has all its sides, with 0 some are gone.
type nooseCase struct {
	name       string
	f          impl.Feat
	full, less []impl.Name
}

func nooses() []nooseCase {
	p, two, four := par(0, 1, 0), par(0, 2, 0), par(0, 1, 4)
	o, c3, c4 := con(0), con(3), con(4)
	return []nooseCase{
		// (4, 0) and (4, p) come together: the side X = 4 is gone, the slant to (0, 3) is there.
		{"at first", drawn(c4, o, c4, p, o, c3, o, o), roles(4, 5, 0, 1, 2, 3), roles(4, 5, 0, 1, 3)},
		{"second", drawn(o, o, c4, o, c4, p, o, c3), roles(5, 2, 0, 1, 3, 4), roles(5, 2, 0, 1, 4)},
		{"third", drawn(o, c3, o, o, c4, o, c4, p), roles(2, 3, 0, 1, 4, 5), roles(2, 3, 0, 1, 5)},
		{"at last", drawn(c4, p, o, c3, o, o, c4, o), roles(3, 4, 0, 1, 5, 2), roles(3, 4, 0, 1, 2)},
		{"second, the other way round", drawn(o, c3, c4, p, c4, o, o, o), roles(5, 4, 0, 1, 3, 2), roles(5, 4, 0, 1, 2)},
		{"at first, the other way round", drawn(c4, p, c4, o, o, o, o, c3), roles(4, 3, 0, 1, 2, 5), roles(4, 3, 0, 1, 5)},
		{"at last, the other way round", drawn(c4, o, o, o, o, c3, c4, p), roles(3, 2, 0, 1, 5, 4), roles(3, 2, 0, 1, 4)},
		// (4, 0), (4 + p, p) and (4, 2 p) come together: a tip of two sides is gone.
		{"two at first", drawn(c4, o, four, p, c4, two, o, c3, o, o), roles(5, 6, 0, 1, 2, 3, 4), roles(5, 6, 0, 1, 4)},
		{"two in the middle", drawn(o, o, c4, o, four, p, c4, two, o, c3), roles(6, 2, 0, 1, 3, 4, 5), roles(6, 2, 0, 1, 5)},
		{"two at last", drawn(c4, two, o, c3, o, o, c4, o, four, p), roles(3, 4, 0, 1, 5, 6, 2), roles(3, 4, 0, 1, 2)},
		{"the last and the first", drawn(four, p, c4, two, o, c3, o, o, c4, o), roles(4, 5, 0, 1, 6, 2, 3), roles(4, 5, 0, 1, 3)},
		// (4, p) and (4, 0), and (p, 3) and (0, 3): the sides X = 4 and Y = 3 are gone.
		{"two apart", drawn(o, o, c4, o, c4, p, p, c3, o, c3), roles(6, 2, 0, 1, 5, 3, 4), roles(6, 2, 0, 1, 4)},
		{"the first and the third", drawn(c4, o, c4, p, p, c3, o, c3, o, o), roles(5, 6, 0, 1, 4, 2, 3), roles(5, 6, 0, 1, 3)},
	}
}

// withOne is a history of one parameter.
func withOne(p int64, feats ...impl.Feat) impl.History { return withParams(hs(feats...), p) }

func TestNamesOfEdgesThatCloseUp(t *testing.T) {
	for _, c := range nooses() {
		for p, want := range [][]impl.Name{c.less, c.full} {
			h := withOne(int64(p), c.f)
			if got := checkNames(t, c.name, h); !slices.Equal(got, want) {
				t.Error(c.name, "with", p, "has the names", got, "not", want)
			}
			for role := range int64(9) {
				at, ok := impl.FindName(h, nm(1, role))
				if i := slices.Index(want, nm(1, role)); at != int64(i) || ok != (i >= 0) {
					t.Error(c.name, "with", p, "has the role", role, "at", at, ok, "not", i)
				}
			}
		}
	}
	// Of six places four are one.
	h := hs(drawn(con(0), con(0), con(4), con(0), con(4), con(0), con(4), con(0), con(4), con(0), con(0), con(3)))
	if got := checkNames(t, "three in a row", h); !slices.Equal(got, roles(7, 2, 0, 1, 6)) {
		t.Error("three in a row", got)
	}
	// Places that are one by the sum alone: 1/2 by 6 and 1, and 4.
	half := impl.Term{Param: 0, By: q(1, 2), Add: q(1, 1)}
	h = withOne(6, drawn(con(0), con(0), half, con(0), con(4), con(0), con(0), con(3)))
	if got := checkNames(t, "alike by a sum", h); !slices.Equal(got, roles(5, 2, 0, 1, 4)) {
		t.Error("alike by a sum", got)
	}
	// Without a side at all there are no names.
	for _, h := range []impl.History{
		hs(drawn(con(1), con(2), con(1), con(2), con(1), con(2))),
		hs(drawn(con(1), con(2), con(1), con(2), con(3), con(2), con(3), con(2))),
	} {
		if got, ok := impl.Names(h); !ok || len(got) > 0 {
			t.Error(h, "has the names", got, ok)
		}
	}
}

// What takes its names from a prism takes those of its sides.
func TestNamesTakenFromEdgesThatCloseUp(t *testing.T) {
	f := drawn(con(0), con(0), con(4), con(0), con(4), par(0, 1, 0), con(0), con(3))
	box := func(n ...int64) impl.Feat { return ft(2, impl.FtBox, 0, 0, n...) }
	whole := roles(5, 2, 0, 1, 4)
	for _, c := range []nameCase{
		{"moved", withOne(0, f, ft(2, impl.FtMove, 1, 0, 10, -2, 3)), whole},
		{"moved twice", withOne(0, f, ft(2, impl.FtMove, 1, 0, 10, -2, 3), ft(3, impl.FtMove, 2, 0, 1, 1, 1)), whole},
		{"halved", withOne(0, f, ft(2, impl.FtHalf, 1, 0, 1, 0, 0, 2)), nms(1, 5, 1, 2, 1, 0, 1, 1, 2, 0, 1, 4)},
		{"halved along the slant", withOne(0, f, ft(2, impl.FtHalf, 1, 0, 3, 4, 0, 12)), whole},
		{"off: a move", withOne(0, f, off(ft(2, impl.FtMove, 1, 0, 10, -2, 3))), whole},
		{"off: a half", withOne(0, f, off(ft(2, impl.FtHalf, 1, 0, 1, 0, 0, 2))), whole},
		{"off: a cut", withOne(0, f, box(0, 0, 0, 1, 1, 1), off(ft(3, impl.FtCut, 1, 2))), whole},
		// A box next to X = 0: what both have on one plane is the prism's.
		{"united", withOne(0, f, box(-4, 0, 0, 0, 3, 1), ft(3, impl.FtUnite, 1, 2)), nms(2, 0, 1, 2, 1, 0, 1, 1, 2, 4, 1, 4)},
		{"united, the box first", withOne(0, f, box(-4, 0, 0, 0, 3, 1), ft(3, impl.FtUnite, 2, 1)), nms(2, 0, 2, 1, 2, 2, 2, 5, 2, 4, 1, 4)},
		{"in common", withOne(0, f, box(1, -1, -1, 9, 9, 9), ft(3, impl.FtCommon, 1, 2)), nms(2, 0, 1, 2, 1, 0, 1, 1, 1, 4)},
		{"cut", withOne(0, f, box(-1, -1, -1, 1, 9, 9), ft(3, impl.FtCut, 1, 2)), nms(2, 3, 1, 2, 1, 0, 1, 1, 1, 4)},
		// The slant is what the cut leaves, turned round.
		{"cut away", withOne(0, f, box(0, 0, 0, 4, 3, 1), ft(3, impl.FtCut, 2, 1)), nms(1, 4, 2, 2, 2, 5, 2, 4, 2, 3)},
		{"all in a row", withOne(0, f, box(-4, 0, 0, 0, 3, 1), ft(3, impl.FtUnite, 1, 2), ft(4, impl.FtMove, 3, 0, 5, 5, 5), off(ft(5, impl.FtHalf, 4, 0, 1, 0, 0, 0))),
			nms(2, 0, 1, 2, 1, 0, 1, 1, 2, 4, 1, 4)},
	} {
		if got := checkNames(t, c.name, c.h); !slices.Equal(got, c.want) {
			t.Error(c.name, "has the names", got, "not", c.want)
		}
		if at, ok := impl.FindName(c.h, nm(1, 3)); ok || at != -1 {
			t.Error(c.name, "has the side that is gone at", at, ok)
		}
		// With the side X = 4 the slant has the name that it had without.
		o := withParams(c.h, 1)
		checkNames(t, c.name, o)
		if _, ok := impl.FindName(o, nm(1, 4)); !ok && c.name != "halved along the slant" {
			t.Error(c.name, "has no slant with 1")
		}
	}
}

// sidesAlone is the loop of the places at which an edge begins, and which edges these are.
func sidesAlone(loop []int64) ([]int64, []int64) {
	var places, edges []int64
	for i := 0; i < len(loop); i += 2 {
		next := (i + 2) % len(loop)
		if loop[i] != loop[next] || loop[i+1] != loop[next+1] {
			places = append(places, loop[i], loop[i+1])
			edges = append(edges, int64(i/2))
		}
	}
	return places, edges
}

// A prism has the sides that it has without the edges that are none, and their names are the same but for how they are counted.
func TestNamesWithoutEdgesThatAreNone(t *testing.T) {
	t.Parallel()
	d := dice(195)
	seen := 0
	for range 300 {
		var loop []int64
		for range 3 + d.next()%4 {
			if len(loop) > 0 && d.next()%3 == 0 {
				loop = append(loop, loop[len(loop)-2:]...)
			} else {
				loop = append(loop, d.upTo(2), d.upTo(2))
			}
		}
		if d.next()%4 == 0 {
			copy(loop[len(loop)-2:], loop[:2])
		}
		places, edges := sidesAlone(loop)
		if len(places) < 6 {
			continue
		}
		got := checkNames(t, loop, hs(ft(1, impl.FtPrism, 0, 0, slices.Concat([]int64{0, 1}, loop)...)))
		want, _ := impl.Names(hs(ft(1, impl.FtPrism, 0, 0, slices.Concat([]int64{0, 1}, places)...)))
		for i, n := range want {
			if n.Role >= 2 {
				want[i].Role = 2 + edges[n.Role-2]
			}
		}
		if !slices.Equal(got, want) {
			t.Error(loop, "has the names", got, "not", want)
		}
		if len(got) > 0 && len(places) < len(loop) {
			seen++
		}
	}
	if seen < 80 {
		t.Error("too few", seen)
	}
}
