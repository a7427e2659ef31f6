package tests

import (
	"math"
	"math/big"
	"slices"
	"testing"

	"loop.example/g00022/impl"
)

// Promise 21: drawings told by hand, limits, and what is no solid.

func joinedUp(t *testing.T, list ...impl.Solid) impl.Solid {
	t.Helper()
	s, ok := impl.Gather(list)
	if !ok {
		t.Fatal("no solid of", list)
	}
	return s
}

func boxOf(t *testing.T, a, b, c, d, e, f int64) impl.Solid {
	t.Helper()
	s, ok := impl.Box(v3(a, b, c), v3(d, e, f))
	if !ok {
		t.Fatal("no box")
	}
	return s
}

func hullOf3(t *testing.T, xyz ...int64) impl.Solid {
	t.Helper()
	var list []impl.V3
	for i := 0; i < len(xyz); i += 3 {
		list = append(list, v3(xyz[i], xyz[i+1], xyz[i+2]))
	}
	s, ok := impl.Hull3(list)
	if !ok {
		t.Fatal("no hull of", list)
	}
	return s
}

func lessOf(t *testing.T, a, b impl.Solid) impl.Solid {
	t.Helper()
	s, ok := impl.Join(a, b, impl.OpLess)
	if !ok {
		t.Fatal("nothing is left")
	}
	return s
}

func TestHiddenByHand(t *testing.T) {
	// A plate, and above it a frame with a hole.
	frame := lessOf(t, boxOf(t, 0, 0, 2, 4, 4, 3), boxOf(t, 1, 1, 2, 3, 3, 3))
	plate := joinedUp(t, boxOf(t, 0, 0, 0, 4, 4, 1), frame)
	tent := hullOf3(t, 0, 0, 0, 2, 0, 0, 0, 2, 0, 2, 2, 0, 1, 0, 2, 1, 2, 2)
	bowl := hullOf3(t, 1, 1, 1, 0, 0, 3, 2, 0, 3, 2, 2, 3, 0, 2, 3)
	touching := joinedUp(t, boxOf(t, 0, 0, 0, 1, 1, 1), boxOf(t, 1, 1, 0, 2, 2, 1), boxOf(t, 2, 2, 1, 3, 3, 2))
	hollow := lessOf(t, boxOf(t, 0, 0, 0, 3, 3, 3), boxOf(t, 1, 1, 1, 2, 2, 2))
	half := q(1, 2)
	at := func(x, y, z impl.Q) impl.V3 { return impl.V3{X: x, Y: y, Z: z} }
	for _, c := range []struct {
		name string
		s    impl.Solid
		v    impl.V3
		want int64
	}{
		{"under all", plate, v3(2, 2, -5), 1}, {"on the lower side", plate, v3(2, 2, 0), 1}, {"in the plate", plate, at(q(2, 1), q(2, 1), half), 1},
		{"on the plate, under the hole", plate, v3(2, 2, 1), 0}, {"in the hole", plate, at(q(2, 1), q(2, 1), q(5, 2)), 0},
		{"on the plate, beyond a gap", plate, at(half, half, q(1, 1)), 1}, {"in the gap", plate, at(half, half, q(3, 2)), 1}, {"under the frame", plate, at(half, half, q(2, 1)), 1},
		{"in the frame", plate, at(half, half, q(5, 2)), 1}, {"on the frame", plate, at(half, half, q(3, 1)), 0}, {"over the frame", plate, at(half, half, q(9, 1)), 0},
		{"under an upright face of the hole", plate, v3(1, 2, 1), 0}, {"on that face", plate, at(q(1, 1), q(2, 1), q(5, 2)), 0}, {"in the plate, under that face", plate, at(q(1, 1), q(2, 1), half), 1},
		{"under a corner of the hole", plate, v3(1, 1, 1), 0}, {"at a corner of the hole", plate, v3(1, 1, 2), 0}, {"under an outer face", plate, v3(0, 2, 1), 0}, {"under a corner", plate, v3(0, 0, -1), 0},
		{"beside", plate, v3(5, 2, 0), 0}, {"beside, far below", plate, v3(4, 5, -top), 0},
		{"under a ridge", tent, v3(1, 1, 0), 1}, {"on the ridge", tent, v3(1, 1, 2), 0}, {"under an eave", tent, v3(0, 1, -1), 0}, {"on a slope", tent, at(half, q(1, 1), q(1, 1)), 0},
		{"under the end of the ridge", tent, v3(1, 0, 0), 0}, {"under the gable", tent, at(half, q(0, 1), q(-1, 1)), 0},
		{"under the lowest corner", bowl, v3(1, 1, 0), 1}, {"at the lowest corner", bowl, v3(1, 1, 1), 1}, {"under a slant edge", bowl, at(half, half, q(0, 1)), 1}, {"on a slant edge", bowl, at(half, half, q(2, 1)), 1},
		{"under a corner that it only touches", bowl, v3(0, 0, 0), 0}, {"under an edge that it only touches", bowl, v3(0, 1, 0), 0}, {"at that edge", bowl, v3(0, 1, 3), 0},
		{"under an upright edge in common", touching, v3(1, 1, -1), 0}, {"on an upright edge in common", touching, at(q(1, 1), q(1, 1), half), 0}, {"under a corner in common", touching, v3(2, 2, 0), 0},
		{"beside that", touching, at(q(3, 2), q(3, 2), q(0, 1)), 1},
		{"in a hollow", hollow, at(q(3, 2), q(3, 2), q(3, 2)), 1}, {"on the floor of a hollow", hollow, at(q(3, 2), q(3, 2), q(1, 1)), 1}, {"at the wall of a hollow", hollow, at(q(1, 1), q(3, 2), q(3, 2)), 1},
		{"over a hollow", hollow, at(q(3, 2), q(3, 2), q(5, 2)), 1}, {"on top of all", hollow, at(q(3, 2), q(3, 2), q(3, 1)), 0},
		{"nothing", impl.Solid{}, v3(0, 0, 0), 0}, {"nothing, far below", impl.Solid{}, v3(0, 0, -top), 0},
	} {
		if got := impl.Hidden(c.s, c.v); got != c.want {
			t.Error(c.name, c.v, "is hidden:", got, "not", c.want)
		}
	}
}

// ink are strokes by the numbers of their ends; those of a list behind nil are hidden.
func ink(seen []int64, hidden []int64) []impl.Stroke {
	var list []impl.Stroke
	for i, xy := range [][]int64{seen, hidden} {
		for k := 0; k < len(xy); k += 4 {
			list = append(list, impl.Stroke{A: at(xy[k], xy[k+1]), B: at(xy[k+2], xy[k+3]), Hidden: i == 1})
		}
	}
	slices.SortFunc(list, func(k, l impl.Stroke) int {
		if c := impl.CmpV(k.A, l.A); c != 0 {
			return int(c)
		}
		return int(impl.CmpV(k.B, l.B))
	})
	return list
}

func TestStrokesByHand(t *testing.T) {
	square := []int64{0, 0, 0, 2, 0, 0, 2, 0, 0, 2, 2, 2, 2, 0, 2, 2}
	cross := []int64{0, 0, 1, 1, 0, 2, 1, 1, 1, 1, 2, 0, 1, 1, 2, 2}
	tent := hullOf3(t, 0, 0, 3, 4, 0, 3, 0, 4, 3, 4, 4, 3, 2, 0, 5, 2, 4, 5)
	for _, c := range []struct {
		name         string
		s            impl.Solid
		seen, hidden []int64
	}{
		{"nothing", impl.Solid{}, nil, nil},
		{"a box", boxOf(t, 0, 0, 0, 2, 2, 9), square, nil},
		{"a pyramid", hullOf3(t, 0, 0, 0, 2, 0, 0, 2, 2, 0, 0, 2, 0, 1, 1, 5), slices.Concat(square, cross), nil},
		{"one upside down", hullOf3(t, 0, 0, 5, 2, 0, 5, 2, 2, 5, 0, 2, 5, 1, 1, 0), square, cross},
		{"both, one on the other", hullOf3(t, 0, 0, 0, 2, 0, 0, 2, 2, 0, 0, 2, 0, 1, 1, 5, 1, 1, -5), slices.Concat(square, cross), nil},
		{"a bar over another one", joinedUp(t, boxOf(t, 0, 1, 0, 6, 2, 1), boxOf(t, 2, 0, 2, 4, 3, 3)),
			[]int64{0, 1, 0, 2, 6, 1, 6, 2, 0, 1, 2, 1, 4, 1, 6, 1, 0, 2, 2, 2, 4, 2, 6, 2, 2, 0, 2, 1, 2, 1, 2, 2, 2, 2, 2, 3, 4, 0, 4, 1, 4, 1, 4, 2, 4, 2, 4, 3, 2, 0, 4, 0, 2, 3, 4, 3}, []int64{2, 1, 4, 1, 2, 2, 4, 2}},
		{"a bar that is joined to another one", joinedUp(t, boxOf(t, 0, 1, 0, 6, 2, 1), boxOf(t, 2, 0, 1, 4, 3, 3)),
			[]int64{0, 1, 0, 2, 6, 1, 6, 2, 0, 1, 2, 1, 4, 1, 6, 1, 0, 2, 2, 2, 4, 2, 6, 2, 2, 0, 2, 1, 2, 1, 2, 2, 2, 2, 2, 3, 4, 0, 4, 1, 4, 1, 4, 2, 4, 2, 4, 3, 2, 0, 4, 0, 2, 3, 4, 3}, []int64{2, 1, 4, 1, 2, 2, 4, 2}},
		{"a ridge over an edge of a small box", joinedUp(t, tent, boxOf(t, 2, 1, 0, 3, 2, 1)),
			[]int64{0, 0, 0, 4, 0, 0, 2, 0, 2, 0, 4, 0, 4, 0, 4, 4, 0, 4, 2, 4, 2, 4, 4, 4, 2, 0, 2, 1, 2, 1, 2, 2, 2, 2, 2, 4}, []int64{2, 1, 3, 1, 2, 2, 3, 2, 3, 1, 3, 2}},
		{"edges of like places, one hidden", joinedUp(t, tent, boxOf(t, 0, 0, 0, 2, 4, 1)),
			[]int64{0, 0, 0, 4, 0, 0, 2, 0, 2, 0, 4, 0, 4, 0, 4, 4, 0, 4, 2, 4, 2, 4, 4, 4, 2, 0, 2, 4}, nil},
		{"an edge in part over another one", joinedUp(t, boxOf(t, 0, 0, 0, 3, 1, 1), boxOf(t, 2, 0, 2, 5, 1, 3)),
			[]int64{0, 0, 0, 1, 0, 0, 2, 0, 2, 0, 3, 0, 3, 0, 5, 0, 0, 1, 2, 1, 2, 1, 3, 1, 3, 1, 5, 1, 2, 0, 2, 1, 5, 0, 5, 1}, []int64{3, 0, 3, 1}},
		{"ends that meet when they are drawn", joinedUp(t, boxOf(t, 0, 0, 0, 1, 1, 1), boxOf(t, 1, 1, 5, 2, 2, 6)),
			[]int64{0, 0, 0, 1, 0, 0, 1, 0, 0, 1, 1, 1, 1, 0, 1, 1, 1, 1, 1, 2, 1, 1, 2, 1, 1, 2, 2, 2, 2, 1, 2, 2}, nil},
		{"an end in the middle of another one", joinedUp(t, boxOf(t, 0, 0, 0, 2, 2, 1), boxOf(t, 2, 1, 3, 3, 3, 4)),
			[]int64{0, 0, 0, 2, 0, 0, 2, 0, 0, 2, 2, 2, 2, 0, 2, 1, 2, 1, 2, 2, 2, 2, 2, 3, 2, 1, 3, 1, 2, 3, 3, 3, 3, 1, 3, 3}, nil},
		{"parts that touch at an upright edge", joinedUp(t, boxOf(t, 0, 0, 0, 1, 1, 1), boxOf(t, 1, 1, 0, 2, 2, 1)),
			[]int64{0, 0, 0, 1, 0, 0, 1, 0, 0, 1, 1, 1, 1, 0, 1, 1, 1, 1, 1, 2, 1, 1, 2, 1, 1, 2, 2, 2, 2, 1, 2, 2}, nil},
		{"parts that touch at a level edge", joinedUp(t, boxOf(t, 0, 0, 0, 1, 1, 1), boxOf(t, 1, 0, 1, 2, 1, 2)),
			[]int64{0, 0, 0, 1, 0, 0, 1, 0, 0, 1, 1, 1, 1, 0, 1, 1, 1, 0, 2, 0, 1, 1, 2, 1, 2, 0, 2, 1}, nil},
		{"parts that touch at a corner", joinedUp(t, boxOf(t, 0, 0, 0, 1, 1, 1), boxOf(t, 1, 1, 1, 2, 2, 2)),
			[]int64{0, 0, 0, 1, 0, 0, 1, 0, 0, 1, 1, 1, 1, 0, 1, 1, 1, 1, 1, 2, 1, 1, 2, 1, 1, 2, 2, 2, 2, 1, 2, 2}, nil},
		{"a way through", lessOf(t, boxOf(t, 0, 0, 0, 3, 3, 3), boxOf(t, 1, 1, 0, 2, 2, 3)),
			[]int64{0, 0, 0, 3, 0, 0, 3, 0, 0, 3, 3, 3, 3, 0, 3, 3, 1, 1, 1, 2, 1, 1, 2, 1, 1, 2, 2, 2, 2, 1, 2, 2}, nil},
		{"a pit", lessOf(t, boxOf(t, 0, 0, 0, 3, 3, 3), boxOf(t, 1, 1, 1, 2, 2, 3)),
			[]int64{0, 0, 0, 3, 0, 0, 3, 0, 0, 3, 3, 3, 3, 0, 3, 3, 1, 1, 1, 2, 1, 1, 2, 1, 1, 2, 2, 2, 2, 1, 2, 2}, nil},
		{"a pit from below", lessOf(t, boxOf(t, 0, 0, 0, 3, 3, 3), boxOf(t, 1, 1, 0, 2, 2, 2)),
			[]int64{0, 0, 0, 3, 0, 0, 3, 0, 0, 3, 3, 3, 3, 0, 3, 3}, []int64{1, 1, 1, 2, 1, 1, 2, 1, 1, 2, 2, 2, 2, 1, 2, 2}},
		{"a hollow", lessOf(t, boxOf(t, 0, 0, 0, 3, 3, 3), boxOf(t, 1, 1, 1, 2, 2, 2)),
			[]int64{0, 0, 0, 3, 0, 0, 3, 0, 0, 3, 3, 3, 3, 0, 3, 3}, []int64{1, 1, 1, 2, 1, 1, 2, 1, 1, 2, 2, 2, 2, 1, 2, 2}},
		{"a step", joinedUp(t, boxOf(t, 0, 0, 0, 2, 1, 1), boxOf(t, 0, 0, 0, 1, 1, 2)),
			[]int64{0, 0, 0, 1, 0, 0, 1, 0, 1, 0, 2, 0, 0, 1, 1, 1, 1, 1, 2, 1, 1, 0, 1, 1, 2, 0, 2, 1}, nil},
	} {
		want := ink(c.seen, c.hidden)
		if got, ok := impl.Strokes(c.s); !ok || !slices.Equal(got, want) {
			t.Error(c.name, "is drawn", got, ok, "not", want)
		}
		if shadow, ok := impl.Shadow(c.s); !ok {
			t.Error(c.name, "has no shadow")
		} else {
			checkShadowDrawn(t, c.name, shadow, want)
		}
	}
}

// Each edge over a stroke, wherever on it, is hidden as the stroke tells.
func TestStrokesAreHiddenAllAlong(t *testing.T) {
	t.Parallel()
	d := dice(215)
	for n := range int64(12) {
		c := d.stack(2+n%4, 5)
		s, ok := c.skin()
		strokes, fine := impl.Strokes(s)
		if !ok || !fine {
			t.Fatal(n, "is not drawn")
		}
		edges, lines := drawnEdges(s)
		for _, k := range strokes {
			for _, share := range []*big.Rat{big.NewRat(1, 9), big.NewRat(4, 5)} {
				p, all := between(pointOf(k.A), pointOf(k.B), share), true
				for i, line := range lines {
					if isOn(p, line.a, line.b) {
						v, _ := point3{p.x, p.y, heightOn(edges[i], p)}.place()
						all = all && impl.Hidden(s, v) == 1
					}
				}
				if all != k.Hidden {
					t.Fatal(n, k, "is hidden at", p, all)
				}
			}
		}
	}
}

// Of a convex solid all edges of faces that look up are seen, and its shadow has the area that it faces up with.
func TestDrawingsOfConvexSolids(t *testing.T) {
	t.Parallel()
	d := dice(216)
	for n := range 40 {
		var list []impl.V3
		for range 4 + n%8 {
			list = append(list, v3(d.upTo(6), d.upTo(6), d.upTo(6)))
		}
		s, ok := impl.Hull3(list)
		if !ok {
			continue
		}
		strokes, ok1 := impl.Strokes(s)
		shadow, ok2 := impl.Shadow(s)
		area, ok3 := impl.Facing(s, v3(0, 0, 1))
		if !ok1 || !ok2 || !ok3 || len(shadow.Loops) != 1 || areaOf(shadow).Cmp(timesRat(rat(area), big.NewRat(2, 1))) != 0 {
			t.Fatal(list, "has the shadow", shadow, ok1, ok2, ok3)
		}
		checkShadowDrawn(t, list, shadow, strokes)
		for _, f := range s.Faces {
			if f.Plane.C.Num <= 0 {
				continue
			}
			for _, e := range edgesOf(pointLoops(f.Region.Loops)) {
				for _, k := range strokes {
					if k.Hidden && isOn(pointOf(k.A), e.a, e.b) && isOn(pointOf(k.B), e.a, e.b) {
						t.Fatal(list, "hides", k, "of a face that looks up")
					}
				}
			}
		}
	}
}

func TestShadowsByHand(t *testing.T) {
	roof := func(x, y int64) impl.Solid { return hullOf3(t, x, y, 9, x+4, y, 9, x, y+4, 9, x+2, y+2, 12) }
	ring := lessOf(t, boxOf(t, 0, 0, 0, 5, 5, 1), boxOf(t, 1, 1, 0, 4, 4, 1))
	for _, c := range []struct {
		name string
		s    impl.Solid
		want [][]impl.V
	}{
		{"nothing", impl.Solid{}, nil},
		{"a box", boxOf(t, 1, 2, 3, 4, 5, 6), lps(box(1, 2, 4, 5))},
		{"over one another", joinedUp(t, boxOf(t, 0, 0, 0, 2, 2, 1), boxOf(t, 0, 0, 3, 2, 2, 4)), lps(box(0, 0, 2, 2))},
		{"a small one over a great one", joinedUp(t, boxOf(t, 0, 0, 0, 4, 4, 1), boxOf(t, 1, 1, 3, 2, 2, 4)), lps(box(0, 0, 4, 4))},
		{"in part over one another", joinedUp(t, boxOf(t, 0, 0, 0, 2, 2, 1), boxOf(t, 1, 1, 3, 3, 3, 4)), lps(lp(0, 0, 2, 0, 2, 1, 3, 1, 3, 3, 1, 3, 1, 2, 0, 2))},
		{"beside one another", joinedUp(t, boxOf(t, 0, 0, 0, 2, 2, 1), boxOf(t, 3, 0, 3, 5, 2, 4)), lps(box(0, 0, 2, 2), box(3, 0, 5, 2))},
		{"touching along an edge, at different heights", joinedUp(t, boxOf(t, 0, 0, 0, 2, 2, 1), boxOf(t, 2, 0, 3, 5, 2, 4)), lps(box(0, 0, 5, 2))},
		{"touching along a part of an edge", joinedUp(t, boxOf(t, 0, 0, 0, 2, 2, 1), boxOf(t, 2, 1, 3, 5, 3, 4)), lps(lp(0, 0, 2, 0, 2, 1, 5, 1, 5, 3, 2, 3, 2, 2, 0, 2))},
		{"touching at a corner", joinedUp(t, boxOf(t, 0, 0, 0, 2, 2, 1), boxOf(t, 2, 2, 3, 5, 5, 4)), lps(box(0, 0, 2, 2), box(2, 2, 5, 5))},
		{"a hole that is seen through", ring, lps(box(0, 0, 5, 5), backward(box(1, 1, 4, 4)))},
		{"a hole that something covers from above", joinedUp(t, ring, boxOf(t, 1, 1, 3, 4, 4, 4)), lps(box(0, 0, 5, 5))},
		{"a hole that something covers from below", joinedUp(t, ring, boxOf(t, 0, 0, -3, 5, 5, -2)), lps(box(0, 0, 5, 5))},
		{"a hole that something covers in part", joinedUp(t, ring, boxOf(t, 1, 1, 3, 4, 2, 4)), lps(box(0, 0, 5, 5), lp(1, 2, 1, 4, 4, 4, 4, 2))},
		{"a hole with a part in it", joinedUp(t, ring, boxOf(t, 2, 2, 8, 3, 3, 9)), lps(box(0, 0, 5, 5), backward(box(1, 1, 4, 4)), box(2, 2, 3, 3))},
		{"a part that touches the hole at a corner", joinedUp(t, ring, boxOf(t, 1, 1, 8, 2, 2, 9)), lps(box(0, 0, 5, 5), lp(1, 2, 1, 4, 4, 4, 4, 1, 2, 1, 2, 2))},
		{"a slant one", roof(0, 0), lps(lp(0, 0, 4, 0, 0, 4))},
		{"two slant ones that make a square", joinedUp(t, roof(0, 0), hullOf3(t, 4, 4, 0, 0, 4, 0, 4, 0, 0, 3, 3, 2)), lps(box(0, 0, 4, 4))},
		{"a ring of four bars at two heights", joinedUp(t, boxOf(t, 0, 0, 0, 5, 1, 1), boxOf(t, 0, 4, 0, 5, 5, 1), boxOf(t, 0, 0, 2, 1, 5, 3), boxOf(t, 4, 0, 2, 5, 5, 3)), lps(box(0, 0, 5, 5), backward(box(1, 1, 4, 4)))},
		{"a hollow", lessOf(t, boxOf(t, 0, 0, 0, 3, 3, 3), boxOf(t, 1, 1, 1, 2, 2, 2)), lps(box(0, 0, 3, 3))},
		{"a pit", lessOf(t, boxOf(t, 0, 0, 0, 3, 3, 3), boxOf(t, 1, 1, 1, 2, 2, 3)), lps(box(0, 0, 3, 3))},
	} {
		want := made(t, c.want...)
		if got, ok := impl.Shadow(c.s); !ok || !sameLoops(got.Loops, want.Loops) {
			t.Error(c.name, "has the shadow", got, ok, "not", want)
		}
	}
}

// A prism has its region for its shadow, whatever that is.
func TestShadowsOfPrisms(t *testing.T) {
	t.Parallel()
	held := 0
	for seed := range uint64(60) {
		s := &shapes{spots{dice(seed), 0}}
		a, b, _ := s.regions()
		for _, r := range []impl.Region{a, b} {
			prism, ok := impl.Prism(r, q(0, 1), q(1, 1))
			if !ok {
				continue
			}
			held++
			if got, ok := impl.Shadow(prism); !ok || !sameLoops(got.Loops, r.Loops) {
				t.Fatal(r, "has the shadow", got, ok)
			}
		}
	}
	if held < 40 {
		t.Error("only", held, "prisms")
	}
}

// A bar is a tetrahedron of which the shadow is long and narrow: a rhombus from one tip to the other, or, with a blunt end, a
// triangle.
func bar(from, to, y, z int64, isBlunt bool) tetras {
	if isBlunt {
		return tetra(whole3(from, y, z), fraction3(4*to, 4*y-1, 4*z, 4), fraction3(4*to, 4*y+1, 4*z, 4), whole3(to-1, y, z+1))
	}
	return tetra(whole3(from, y, z), whole3(to, y, z), fraction3(40, 4*y-1, 4*z+4, 4), fraction3(40, 4*y+1, 4*z+4, 4))
}

// lattice are five bars along X, and five along Y above them. Of the first ones some end in the outer ones of the others, so
// that their tips are not seen; of the others some have a blunt end.
func lattice(short, blunt int) tetras {
	var all tetras
	for i := range int64(5) {
		from, to := int64(-1), int64(21)
		if int64(short) > 2*i {
			from = 2
		}
		if int64(short) > 2*i+1 {
			to = 18
		}
		all = all.with(bar(from, to, 2+4*i, 0, false))
		all = all.with(bar(-1, 21, 2+4*i, 9, i < int64(blunt)).moved(func(p point3) point3 { return point3{p[1], p[0], p[2]} }))
	}
	return all
}

func TestShadowsOfManyPlaces(t *testing.T) {
	t.Parallel()
	for _, c := range []struct{ short, blunt, want int }{{0, 0, 120}, {7, 0, 101}, {8, 0, 98}, {8, 2, 99}, {8, 3, 100}, {8, 4, 101}} {
		o := lattice(c.short, c.blunt)
		s, ok := o.skin()
		if !ok || !impl.SolidOk(s) {
			t.Fatal(c, "is no solid")
		}
		_, lines := drawnEdges(s)
		count := len(slices.Concat(walkBorder(borderOf(lines, o.covers))...))
		if count != c.want {
			t.Error(c, "has", count, "places")
		}
		loops, fine := o.wantShadow(s)
		got, ok := impl.Shadow(s)
		if ok != fine || ok != (count <= 100) || !sameLoops(got.Loops, loops) {
			t.Error(c, "has the shadow", got, ok, "not", loops, fine)
		}
		if _, ok := impl.Strokes(s); !ok {
			t.Error(c, "is not drawn")
		}
	}
}

// Two faces of long triangles cross at more places than an outline may have, but a great one covers them all.
func TestShadowsThatCoverManyPlaces(t *testing.T) {
	spike := func(y, z int64) tetras {
		return tetra(whole3(-30, y, z), fraction3(120, 4*y-1, 4*z, 4), fraction3(120, 4*y+1, 4*z, 4), whole3(25, y, z-1))
	}
	cover := tetra(whole3(-400, -400, 100), whole3(900, -400, 100), whole3(-400, 900, 100), whole3(0, 0, 50))
	var all tetras
	for i := range int64(5) {
		all = all.with(spike(2*i, 0))
	}
	for i := range int64(6) {
		all = all.with(spike(2*i, 5).moved(func(p point3) point3 { return point3{p[1], p[0], p[2]} }))
	}
	s, ok := all.skin()
	if shadow, fine := impl.Shadow(s); !ok || fine || len(shadow.Loops) > 0 {
		t.Error("crossing triangles have the shadow", shadow, fine)
	}
	s, ok = all.with(cover).skin()
	shadow, fine := impl.Shadow(s)
	if want := lps(lp(-400, -400, 900, -400, -400, 900)); !ok || !impl.SolidOk(s) || !fine || !sameLoops(shadow.Loops, want) {
		t.Error("what covers them has the shadow", shadow, fine, "not", want)
	}
}

// Edges that cross at a place that is no V when they are drawn: of the shadow that is a place or not.
func TestDrawingsWithPlacesThatAreNone(t *testing.T) {
	const a, b, c = 10000019, 10000079, 9999991
	low := tetra(whole3(0, 0, 0), whole3(a, b, 0), whole3(-c, b, 0), whole3(0, b, 5))
	high := tetra(whole3(-c, a, 9), whole3(a, c, 9), whole3(1, 3*c, 9), whole3(1, 2*c, 15))
	two := low.with(high)
	over := two.with(betweenPlaces(v3(-4*a, -4*a, 100), v3(4*a, 4*a, 101)))
	for _, c := range []struct {
		name            string
		of              tetras
		strokes, shadow bool
	}{{"one", low, true, true}, {"the other", high, true, true}, {"both", two, false, false}, {"both, and a roof over them", over, false, true}} {
		checkDrawing(t, c.name, c.of)
		s, _ := c.of.skin()
		strokes, ok1 := impl.Strokes(s)
		shadow, ok2 := impl.Shadow(s)
		if ok1 != c.strokes || ok2 != c.shadow || !ok1 && len(strokes) > 0 || !ok2 && len(shadow.Loops) > 0 {
			t.Error(c.name, "is drawn", strokes, ok1, "with the shadow", shadow, ok2)
		}
	}
}

// checkNotDrawn asks what is told of what is not SolidOk.
func checkNotDrawn(t *testing.T, name any, s impl.Solid) {
	t.Helper()
	strokes, ok1 := impl.Strokes(s)
	shadow, ok2 := impl.Shadow(s)
	text, ok3 := impl.SolidText(s)
	if ok1 || ok2 || ok3 || len(strokes)+len(shadow.Loops)+len(text) > 0 || impl.Hidden(s, v3(0, 0, 0)) != 2 {
		t.Error(name, "is no solid, but is drawn", strokes, shadow, text)
	}
}

func TestNoDrawings(t *testing.T) {
	t.Parallel()
	for i, s := range brokenSolids() {
		if i%3 == 0 {
			checkNotDrawn(t, i, s)
		}
	}
	clean := skins(bx(0, 0, 0, 1, 2, 3))[0]
	for name, s := range spoilt(clean) {
		checkNotDrawn(t, name, s)
	}
	for _, v := range broken3() {
		for _, s := range []impl.Solid{clean, {}} {
			if got := impl.Hidden(s, v); got != 2 {
				t.Error(v, "is hidden:", got)
			}
		}
		for axis := range int64(4) {
			if one, two := impl.Dim(v, v3(0, 0, 0), axis), impl.Dim(v3(0, 0, 0), v, axis); one+two != "" {
				t.Error("from", v, "it is", one, two)
			}
		}
	}
}

func TestDimsByHand(t *testing.T) {
	zero := v3(0, 0, 0)
	for _, c := range []struct {
		a, b impl.V3
		axis int64
		want string
	}{
		{zero, v3(3, -4, 12), 0, "3"}, {zero, v3(3, -4, 12), 1, "4"}, {zero, v3(3, -4, 12), 2, "12"}, {zero, v3(3, -4, 12), 3, "13"},
		{v3(3, -4, 12), zero, 0, "3"}, {v3(3, -4, 12), zero, 1, "4"}, {v3(3, -4, 12), zero, 3, "13"},
		{zero, v3(3, -4, 12), -1, ""}, {zero, v3(3, -4, 12), 4, ""}, {zero, zero, math.MinInt64, ""}, {zero, zero, math.MaxInt64, ""},
		{zero, zero, 0, "0"}, {v3(5, 5, 5), v3(5, 5, 5), 3, "0"},
		{zero, v3(1, 1, 1), 3, "433/250"}, {zero, v3(1, 1, 0), 3, "707/500"}, {zero, v3(0, 2, 0), 3, "2"},
		{impl.V3{X: q(1, 3), Y: q(0, 1), Z: q(0, 1)}, zero, 0, "1/3"}, {impl.V3{X: q(1, 3), Y: q(0, 1), Z: q(0, 1)}, zero, 3, "333/1000"},
		{impl.V3{X: q(1, 2000), Y: q(0, 1), Z: q(0, 1)}, zero, 3, "0"}, {impl.V3{X: q(1, 1000), Y: q(0, 1), Z: q(0, 1)}, zero, 3, "1/1000"},
		{impl.V3{X: q(-1, 2), Y: q(0, 1), Z: q(0, 1)}, impl.V3{X: q(1, 3), Y: q(0, 1), Z: q(0, 1)}, 0, "5/6"},
		// A size up to the limit, and past it; another axis does not matter.
		{zero, v3(top, 0, 0), 0, "1000000000000000000"}, {v3(-1, 0, 0), v3(top, 0, 0), 0, ""}, {v3(-top, 7, 0), v3(top, 0, 0), 1, "7"}, {v3(0, 0, top), v3(0, 0, -top), 2, ""},
		{impl.V3{X: q(1, top), Y: q(0, 1), Z: q(0, 1)}, impl.V3{X: q(1, top-1), Y: q(0, 1), Z: q(0, 1)}, 0, ""},
		// A square up to the limit, and past it.
		{zero, v3(1000000000, 0, 0), 3, "1000000000"}, {zero, v3(1000000000, 1, 0), 3, ""}, {zero, v3(1000000001, 0, 0), 3, ""}, {v3(top, 0, 0), v3(-top, 0, 0), 3, ""},
		{zero, impl.V3{X: q(1, 1000000000), Y: q(0, 1), Z: q(0, 1)}, 3, "0"}, {zero, impl.V3{X: q(1, 1000000001), Y: q(0, 1), Z: q(0, 1)}, 3, ""},
		// Squares that are no Qs, and make one together.
		{zero, impl.V3{X: q(3, 5000000000), Y: q(1, 1250000000), Z: q(0, 1)}, 3, "0"}, {zero, impl.V3{X: q(3, 5000000000), Y: q(0, 1), Z: q(0, 1)}, 3, ""},
	} {
		if got := impl.Dim(c.a, c.b, c.axis); got != c.want {
			t.Error("from", c.a, "to", c.b, "along", c.axis, "it is", got, "not", c.want)
		}
	}
}

// wantDim goes by big numbers; of a square that is no Q there is no root.
func wantDim(a, b impl.V3, axis int64) string {
	way := point3Of(b).minus(point3Of(a))
	if axis < 3 {
		size, ok := asQ(new(big.Rat).Abs(way[axis]))
		if !ok {
			return ""
		}
		return impl.QText(size)
	}
	square := way.dot(way)
	if _, ok := asQ(square); !ok {
		return ""
	}
	k := floorOf(timesRat(square, big.NewRat(1000000, 1)))
	root, _ := lowest(k.Sqrt(k), big.NewInt(1000))
	return impl.QText(root)
}

func TestDimsMany(t *testing.T) {
	d, told := dice(217), 0
	for n := range 3000 {
		number := func() impl.Q {
			if n%3 == 0 {
				return d.fraction()
			}
			f, _ := impl.QOf(d.anySize(2000000000), 1+int64(d.next()%7))
			return f
		}
		a, b := impl.V3{X: number(), Y: number(), Z: number()}, impl.V3{X: number(), Y: number(), Z: number()}
		axis := int64(n % 4)
		got := impl.Dim(a, b, axis)
		if want := wantDim(a, b, axis); got != want {
			t.Fatal("from", a, "to", b, "along", axis, "it is", got, "not", want)
		}
		if got != "" {
			told++
		}
	}
	if told < 1000 {
		t.Error("only", told, "are told")
	}
}
