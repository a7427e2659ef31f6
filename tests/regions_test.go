package tests

import (
	"fmt"
	"math/big"
	"reflect"
	"slices"
	"strings"
	"testing"

	"loop.example/g00022/impl"
)

// Promise 4.

// lp is a loop of whole places: x and y in turn.
func lp(xy ...int64) []impl.V {
	var loop []impl.V
	for i := 0; i+1 < len(xy); i += 2 {
		loop = append(loop, at(xy[i], xy[i+1]))
	}
	return loop
}

func box(left, low, right, high int64) []impl.V {
	return lp(left, low, right, low, right, high, left, high)
}

func lps(loops ...[]impl.V) [][]impl.V { return loops }

// begun is the same loop, begun at its place k.
func begun(loop []impl.V, k int) []impl.V { return slices.Concat(loop[k:], loop[:k]) }

func backward(loop []impl.V) []impl.V {
	loop = slices.Clone(loop)
	slices.Reverse(loop)
	return loop
}

func sameLoops(a, b [][]impl.V) bool { return slices.EqualFunc(a, b, slices.Equal) }

// made is the region of loops that are known to have one.
func made(t *testing.T, loops ...[]impl.V) impl.Region {
	t.Helper()
	r, ok := impl.MakeRegion(loops)
	if !ok {
		t.Fatal("no region of", loops)
	}
	return r
}

// regionCases are loops with the outline that they should have.
func regionCases() []struct {
	name  string
	loops [][]impl.V
	want  [][]impl.V
} {
	type loops = [][]impl.V
	sq, half := box(0, 0, 2, 2), q(1, 2)
	ring := loops{box(0, 0, 6, 6), lp(1, 1, 1, 5, 5, 5, 5, 1)}
	bow := loops{{at(0, 0), {X: half, Y: half}, at(0, 1)}, {{X: half, Y: half}, at(1, 0), at(1, 1)}}
	return []struct {
		name  string
		loops [][]impl.V
		want  [][]impl.V
	}{
		{"nothing", nil, nil},
		{"a loop of no place", loops{{}}, nil},
		{"a loop of one place", loops{lp(1, 1)}, nil},
		{"a loop of one place, often", loops{lp(1, 1, 1, 1, 1, 1)}, nil},
		{"a loop of two places", loops{lp(1, 1, 5, 3)}, nil},
		{"three places on one line", loops{lp(0, 0, 4, 4, 1, 1)}, nil},
		{"a way there and back", loops{lp(0, 0, 4, 0, 4, 3, 4, 0)}, nil},
		{"short loops beside a square", loops{{}, lp(9, 9), sq, lp(5, 5, 7, 7), {}}, loops{sq}},
		{"short loops on a square", loops{lp(0, 0), lp(0, 0, 2, 0), sq, lp(1, 1, 1, 5)}, loops{sq}},
		{"like places in a row", loops{lp(0, 0, 0, 0, 2, 0, 2, 2, 2, 2, 2, 2, 0, 2, 0, 0)}, loops{sq}},
		{"a place that goes straight on", loops{lp(0, 0, 1, 0, 2, 0, 2, 1, 2, 2, 0, 2)}, loops{sq}},
		{"begun with one that goes straight on", loops{lp(1, 0, 2, 0, 2, 2, 0, 2, 0, 0)}, loops{sq}},
		{"a place that goes back", loops{lp(0, 0, 2, 0, 2, 2, 2, 7, 2, 2, 0, 2)}, loops{sq}},
		{"back along an edge", loops{lp(0, 0, 2, 0, 1, 0, 2, 0, 2, 2, 0, 2)}, loops{sq}},
		{"over the corner and back", loops{lp(0, 0, 5, 0, 2, 0, 2, 2, 0, 2)}, loops{sq}},
		{"a way through the inside and back", loops{lp(0, 0, 2, 0, 2, 2, 1, 1, 2, 2, 0, 2)}, loops{sq}},
		{"twice", loops{sq, sq}, nil},
		{"twice, once gone round the other way", loops{sq, backward(sq)}, nil},
		{"three times", loops{sq, begun(sq, 2), backward(sq)}, loops{sq}},
		{"four times", loops{sq, sq, sq, sq}, nil},
		{"twice round in one loop", loops{slices.Concat(sq, sq)}, nil},
		{"three times round in one loop", loops{slices.Concat(sq, sq, sq)}, loops{sq}},
		{"two that cross", loops{sq, box(1, 1, 3, 3)}, loops{lp(0, 0, 2, 0, 2, 1, 1, 1, 1, 2, 0, 2), lp(1, 2, 2, 2, 2, 1, 3, 1, 3, 3, 1, 3)}},
		{"one loop that crosses itself", loops{lp(0, 0, 1, 1, 1, 0, 0, 1)}, bow},
		{"two that touch at a corner", loops{box(0, 0, 1, 1), box(1, 1, 2, 2)}, loops{box(0, 0, 1, 1), box(1, 1, 2, 2)}},
		{"two that touch at a corner, the other one", loops{box(0, 1, 1, 2), box(1, 0, 2, 1)}, loops{box(0, 1, 1, 2), box(1, 0, 2, 1)}},
		{"touching along an edge", loops{sq, box(2, 0, 4, 2)}, loops{box(0, 0, 4, 2)}},
		{"touching along a part of an edge", loops{sq, box(2, 1, 4, 3)}, loops{lp(0, 0, 2, 0, 2, 1, 4, 1, 4, 3, 2, 3, 2, 2, 0, 2)}},
		{"an edge in common, on the same side", loops{sq, box(0, 0, 2, 1)}, loops{box(0, 1, 2, 2)}},
		{"three with an edge in common", loops{sq, box(2, 0, 4, 2), box(2, 0, 3, 2)}, loops{box(0, 0, 2, 2), box(3, 0, 4, 2)}},
		{"one in the other", loops{box(0, 0, 6, 6), box(1, 1, 5, 5)}, ring},
		{"a hole handed in ahead, gone round to the left", loops{backward(box(1, 1, 5, 5)), box(0, 0, 6, 6)}, ring},
		{"three one in the other", loops{box(2, 2, 4, 4), box(0, 0, 6, 6), box(1, 1, 5, 5)}, append(slices.Clone(ring), box(2, 2, 4, 4))},
		{"a hole with a corner on an edge", loops{box(0, 0, 4, 4), lp(2, 0, 3, 1, 1, 1)}, loops{lp(0, 0, 2, 0, 1, 1, 3, 1, 2, 0, 4, 0, 4, 4, 0, 4)}},
		{"a hole with a corner on the first place", loops{box(0, 0, 4, 4), lp(0, 0, 2, 1, 1, 2)}, loops{lp(0, 0, 1, 2, 2, 1, 0, 0, 4, 0, 4, 4, 0, 4)}},
		{"the first place twice, the hole behind", loops{lp(0, 0, 1, -9, 20, 0, 1, 9), lp(0, 0, 5, -1, 5, 1)},
			loops{lp(0, 0, 1, -9, 20, 0, 1, 9, 0, 0, 5, 1, 5, -1)}},
		{"the first place twice, the hole ahead", loops{lp(0, 0, 9, -9, 20, 0, 9, 9), lp(0, 0, 5, -1, 5, 1)},
			loops{lp(0, 0, 5, 1, 5, -1, 0, 0, 9, -9, 20, 0, 9, 9)}},
		{"the first place three times", loops{lp(0, 0, 4, -9, 20, 0, 4, 9), lp(0, 0, 5, -1, 5, -2), lp(0, 0, 3, 1, 3, 2)},
			loops{lp(0, 0, 3, 2, 3, 1, 0, 0, 5, -1, 5, -2, 0, 0, 4, -9, 20, 0, 4, 9)}},
		{"a hole with a corner on a corner", loops{box(0, 0, 4, 4), lp(4, 4, 2, 3, 3, 2)}, loops{lp(0, 0, 4, 0, 4, 4, 3, 2, 2, 3, 4, 4, 0, 4)}},
		{"two holes with a corner in common", loops{box(0, 0, 6, 6), box(1, 1, 3, 3), box(3, 3, 5, 5)},
			loops{box(0, 0, 6, 6), lp(1, 1, 1, 3, 3, 3, 3, 5, 5, 5, 5, 3, 3, 3, 3, 1)}},
		{"a hole that touches twice parts the inside", loops{box(0, 0, 4, 4), lp(0, 2, 2, 1, 4, 2, 2, 3)},
			loops{lp(0, 0, 4, 0, 4, 2, 2, 1, 0, 2), lp(0, 2, 2, 3, 4, 2, 4, 4, 0, 4)}},
		{"from outside a corner on an edge", loops{box(0, 0, 4, 4), lp(2, 0, 1, -1, 3, -1)}, loops{box(0, 0, 4, 4), lp(1, -1, 3, -1, 2, 0)}},
		{"from outside corners on both sides of an edge", loops{box(0, 0, 4, 4), lp(2, 0, 1, -1, 3, -1), lp(2, 0, 1, 1, 3, 1)},
			loops{lp(0, 0, 2, 0, 1, 1, 3, 1, 2, 0, 4, 0, 4, 4, 0, 4), lp(1, -1, 3, -1, 2, 0)}},
		{"a ring shut at a place", loops{lp(0, 0, 6, 0, 6, 6, 0, 6, 0, 3, 1, 3, 1, 5, 5, 5, 5, 1, 1, 1, 1, 3, 0, 2)},
			loops{lp(0, 0, 6, 0, 6, 6, 0, 6, 0, 3, 1, 3, 1, 5, 5, 5, 5, 1, 1, 1, 1, 3, 0, 2)}},
		{"fans at one place", loops{lp(0, 0, 4, 1, 4, 2), lp(0, 0, 2, 4, 1, 4), lp(0, 0, -4, -1, -4, 1), lp(0, 0, 1, -4, -1, -4)},
			loops{lp(-4, -1, 0, 0, -4, 1), lp(-1, -4, 1, -4, 0, 0), lp(0, 0, 2, 4, 1, 4), lp(0, 0, 4, 1, 4, 2)}},
	}
}

func TestRegionsByHand(t *testing.T) {
	for _, c := range regionCases() {
		r, ok := impl.MakeRegion(c.loops)
		if want, _ := wantRegion(pointLoops(c.loops)); !ok || !sameLoops(r.Loops, want) {
			t.Error(c.name, r, ok, "not", want)
		}
		if !sameLoops(r.Loops, c.want) {
			t.Error(c.name, r, "not, as told by hand,", c.want)
		}
		checkRegion(t, r)
	}
	if impl.MaxEdges != 100 || impl.WhereOut != 0 || impl.WhereOn != 1 || impl.WhereIn != 2 || impl.WhereBad != 3 {
		t.Error("the numbers of what Where tells, or MaxEdges, have changed")
	}
}

// checkRegion asks of an outline what the document says of all.
func checkRegion(t *testing.T, r impl.Region) {
	t.Helper()
	again, ok := impl.MakeRegion(r.Loops)
	if !ok || !sameLoops(again.Loops, r.Loops) || !impl.RegionOk(r) {
		t.Fatal(r, "is not its own outline, but", again, ok)
	}
	area, middle := wantMass(pointLoops(r.Loops))
	want, fine := asQ(area)
	if got, ok := impl.Area2(r); ok != fine || got != want || (area.Sign() > 0) != (len(r.Loops) > 0) {
		t.Fatal("area of", r, got, ok, "not", area)
	}
	var centre impl.V
	fine = false
	if len(r.Loops) > 0 {
		centre, fine = middle.place()
	}
	if got, ok := impl.Middle(r); ok != fine || got != centre {
		t.Fatal("middle of", r, got, ok, "not", middle)
	}
	checkPieces(t, r)
}

func checkPieces(t *testing.T, r impl.Region) {
	t.Helper()
	list, ok := impl.Pieces(r)
	want := wantPieces(r.Loops)
	if !ok || len(list) != len(want) {
		t.Fatal("pieces of", r, list, ok, "not", want)
	}
	area := new(big.Rat)
	for i, piece := range list {
		if !sameLoops(piece.Loops, want[i]) || !impl.RegionOk(piece) {
			t.Fatal("pieces of", r, list, "not", want)
		}
		part, _ := wantMass(pointLoops(piece.Loops))
		area = plusRat(area, part)
	}
	if all, _ := wantMass(pointLoops(r.Loops)); all.Cmp(area) != 0 {
		t.Fatal("pieces of", r, "have not its area")
	}
}

// shapes makes loops that touch and cross in many ways.
type shapes struct{ spots }

func (s *shapes) loop() []impl.V {
	var loop []impl.V
	switch n := 1 + s.next()%uint64(6-s.kind); s.next() % 3 {
	case 0:
		for range n + 1 {
			loop = append(loop, s.place())
		}
	case 1:
		// Along the axes, so that many edges lie on one another.
		v := s.place()
		for range n {
			v.X = s.coord()
			loop = append(loop, v)
			v.Y = s.coord()
			loop = append(loop, v)
		}
	default:
		a, b := s.place(), s.place()
		loop = []impl.V{a, {X: b.X, Y: a.Y}, b, {X: a.X, Y: b.Y}}
	}
	return loop
}

func (s *shapes) loops() [][]impl.V {
	var list [][]impl.V
	most := 3 - uint64(s.kind)/2
	for range 1 + s.next()%most {
		loop := s.loop()
		list = append(list, loop)
		switch k := int(s.next() % uint64(len(loop))); s.next() % 5 {
		case 0:
			list = append(list, backward(begun(loop, k)))
		case 1:
			// Another loop along an edge of this one.
			list = append(list, []impl.V{loop[k], loop[(k+1)%len(loop)], s.place()})
		case 2:
			// Corner to corner.
			list = append(list, []impl.V{loop[k], s.place(), s.place()})
		}
	}
	return list
}

// shuffled hands in the same loops otherwise.
func (s *shapes) shuffled(loops [][]impl.V) [][]impl.V {
	var list [][]impl.V
	for _, loop := range loops {
		if k := s.next(); len(loop) > 0 {
			loop = begun(loop, int(k%uint64(len(loop))))
		}
		if s.next()%2 == 0 {
			loop = backward(loop)
		}
		list = slices.Insert(list, int(s.next()%uint64(len(list)+1)), loop)
	}
	return list
}

func TestRegionsMany(t *testing.T) {
	t.Parallel()
	made, refused := 0, 0
	for kind := range spotKinds {
		s := &shapes{spots{dice(600 + kind), kind}}
		for range []int{120, 60, 40, 30, 30}[kind] {
			loops := s.loops()
			want, fine := wantRegion(pointLoops(loops))
			r, ok := impl.MakeRegion(loops)
			if ok != fine || !sameLoops(r.Loops, want) {
				t.Fatal(loops, "make", r, ok, "not", want, fine)
			}
			for range 3 {
				other := s.shuffled(loops)
				if again, ok := impl.MakeRegion(other); ok != fine || !sameLoops(again.Loops, want) {
					t.Fatal(other, "make", again, ok, "not", want, fine)
				}
			}
			if !ok {
				refused++
				continue
			}
			made++
			checkRegion(t, r)
			checkWhere(t, s, loops, r)
		}
	}
	if made < 120 || refused < 12 {
		t.Error("too few of a kind", made, refused)
	}
}

func checkWhere(t *testing.T, s *shapes, loops [][]impl.V, r impl.Region) {
	t.Helper()
	edges, border := edgesOf(pointLoops(loops)), edgesOf(pointLoops(r.Loops))
	on := func(v impl.V, list []pointEdge) bool {
		return slices.ContainsFunc(list, func(e pointEdge) bool { return isOn(pointOf(v), e.a, e.b) })
	}
	for range 12 {
		v := s.place()
		var want int64
		switch {
		case on(v, border):
			want = 1
		case on(v, edges):
			continue
		case isOddly(pointOf(v), edges):
			want = 2
		}
		if got := impl.Where(r, v); got != want {
			t.Fatal(v, "is", got, "not", want, "for", r)
		}
	}
	for _, e := range border {
		if v, ok := between(e.a, e.b, big.NewRat(1, 2)).place(); ok && impl.Where(r, v) != 1 {
			t.Fatal("the middle of an edge", v, "of", r)
		}
	}
}

func TestWhereByHand(t *testing.T) {
	r := made(t, box(0, 0, 6, 6), box(1, 1, 5, 5), box(2, 2, 4, 4))
	half := impl.V{X: q(1, 2), Y: q(1, 2)}
	for _, c := range []struct {
		v    impl.V
		want int64
	}{
		{at(0, 0), 1}, {at(6, 6), 1}, {at(0, 6), 1}, {at(1, 5), 1}, {at(4, 2), 1}, {at(3, 0), 1}, {at(0, 3), 1}, {at(5, 2), 1}, {at(3, 1), 1}, {at(3, 4), 1},
		{half, 2}, {at(3, 3), 2}, {impl.V{X: q(11, 2), Y: q(1, 1)}, 2}, {impl.V{X: q(1, 1), Y: q(11, 2)}, 2},
		{impl.V{X: q(3, 2), Y: q(3, 1)}, 0}, {impl.V{X: q(3, 2), Y: q(2, 1)}, 0}, {impl.V{X: q(2, 1), Y: q(3, 2)}, 0},
		{at(-1, 0), 0}, {at(7, 0), 0}, {at(0, 7), 0}, {at(0, -1), 0}, {at(7, 6), 0}, {at(-1, 6), 0}, {at(6, 7), 0}, {at(6, -1), 0}, {at(top, top), 0},
		{impl.V{X: q(6, 1), Y: q(top-1, top)}, 1}, {impl.V{X: q(top-1, top), Y: q(3, 1)}, 2}, {impl.V{X: q(top+1-2, top-2), Y: q(3, 1)}, 0},
	} {
		if got := impl.Where(r, c.v); got != c.want {
			t.Error(c.v, "is", got)
		}
	}
	touching := made(t, box(0, 0, 4, 4), lp(2, 0, 3, 1, 1, 1), lp(2, 0, 1, -1, 3, -1))
	for v, want := range map[impl.V]int64{
		at(2, 0): 1, at(1, 0): 1, {X: q(2, 1), Y: q(1, 2)}: 0, {X: q(2, 1), Y: q(-1, 2)}: 2, at(2, 2): 2, {X: q(3, 1), Y: q(1, 2)}: 2, {X: q(3, 1), Y: q(-1, 2)}: 0,
	} {
		if got := impl.Where(touching, v); got != want {
			t.Error(v, "is", got, "where the border touches itself")
		}
	}
	if impl.Where(impl.Region{}, at(0, 0)) != impl.WhereOut {
		t.Error("something is in the empty region")
	}
}

func TestMassByHand(t *testing.T) {
	great := int64(10000000000)
	for _, c := range []struct {
		name   string
		loops  [][]impl.V
		area   impl.Q
		middle impl.V
	}{
		{"nothing", nil, q(0, 1), impl.V{}},
		{"square", lps(box(0, 0, 2, 2)), q(8, 1), at(1, 1)},
		{"triangle", lps(lp(0, 0, 3, 0, 0, 3)), q(9, 1), at(1, 1)},
		{"triangle of fractions", lps(lp(0, 0, 1, 0, 0, 1)), q(1, 1), impl.V{X: q(1, 3), Y: q(1, 3)}},
		{"ring", lps(box(0, 0, 6, 6), box(1, 1, 3, 3)), q(64, 1), impl.V{X: q(25, 8), Y: q(25, 8)}},
		{"two apart", lps(box(0, 0, 1, 1), box(10, 0, 11, 3)), q(8, 1), impl.V{X: q(8, 1), Y: q(5, 4)}},
		{"an area that is MaxNum", lps(box(0, 0, 1000000000, 500000000)), q(top, 1), at(500000000, 250000000)},
		{"an area above MaxNum", lps(box(0, 0, great, great)), impl.Q{}, at(great/2, great/2)},
		{"the greatest one", lps(box(-top, -top, top, top)), impl.Q{}, at(0, 0)},
		{"an area of which the denominator is MaxNum", lps([]impl.V{at(0, 0), at(1, 0), {X: q(0, 1), Y: q(1, top)}}), q(1, top), impl.V{}},
		{"an area of which it is above", lps([]impl.V{at(0, 0), {X: q(1, 3), Y: q(0, 1)}, {X: q(0, 1), Y: q(1, top)}}), impl.Q{}, impl.V{}},
		{"a middle of which X alone is no Q", lps([]impl.V{at(0, 0), at(1, 0), {X: q(1, top), Y: q(3, 1)}}), q(3, 1), impl.V{}},
		{"a middle of which Y alone is no Q", lps([]impl.V{at(0, 0), {X: q(3, 1), Y: q(1, top)}, at(0, 1)}), q(3, 1), impl.V{}},
	} {
		r := made(t, c.loops...)
		if a, ok := impl.Area2(r); ok != (c.area.Den != 0) || a != c.area {
			t.Error(c.name, "has the area", a, ok)
		}
		if m, ok := impl.Middle(r); ok != (c.middle.X.Den != 0) || m != c.middle {
			t.Error(c.name, "has the middle", m, ok)
		}
		checkRegion(t, r)
	}
	// Passed by just one: the same with a triangle beside it.
	r := made(t, box(0, 0, 1000000000, 500000000), lp(-5, -5, -4, -5, -5, -4))
	if a, ok := impl.Area2(r); ok || a != (impl.Q{}) {
		t.Error("an area of MaxNum and 1", a)
	}
}

func TestPiecesByHand(t *testing.T) {
	type loops = [][]impl.V
	for _, c := range []struct {
		name  string
		loops loops
		want  []loops
	}{
		{"nothing", nil, nil},
		{"a square", loops{box(0, 0, 2, 2)}, []loops{{box(0, 0, 2, 2)}}},
		{"rings one in the other", loops{box(0, 0, 9, 9), box(1, 1, 8, 8), box(2, 2, 7, 7), box(3, 3, 6, 6), box(4, 4, 5, 5)},
			[]loops{{box(0, 0, 9, 9), lp(1, 1, 1, 8, 8, 8, 8, 1)}, {box(2, 2, 7, 7), lp(3, 3, 3, 6, 6, 6, 6, 3)}, {box(4, 4, 5, 5)}}},
		{"two rings beside each other", loops{box(0, 0, 3, 3), box(1, 1, 2, 2), box(4, 0, 7, 3), box(5, 1, 6, 2)},
			[]loops{{box(0, 0, 3, 3), lp(1, 1, 1, 2, 2, 2, 2, 1)}, {box(4, 0, 7, 3), lp(5, 1, 5, 2, 6, 2, 6, 1)}}},
		{"two holes, and one between them and another piece", loops{box(0, 0, 9, 3), box(1, 1, 2, 2), box(7, 1, 8, 2), box(4, 4, 5, 5)},
			[]loops{{box(0, 0, 9, 3), lp(1, 1, 1, 2, 2, 2, 2, 1), lp(7, 1, 7, 2, 8, 2, 8, 1)}, {box(4, 4, 5, 5)}}},
		{"a wedge into a hole, up to its corner", loops{box(0, 0, 4, 4), box(1, 1, 3, 3), lp(1, 1, 3, 2, 3, 3)},
			[]loops{{box(0, 0, 4, 4), lp(1, 1, 1, 3, 3, 3, 1, 1, 3, 2, 3, 1)}}},
		{"a hole's corner on a corner of a piece in it", loops{box(0, 0, 9, 9), box(1, 1, 8, 8), lp(1, 1, 5, 2, 2, 5)},
			[]loops{{box(0, 0, 9, 9), lp(1, 1, 1, 8, 8, 8, 8, 1)}, {lp(1, 1, 5, 2, 2, 5)}}},
		{"parted by a hole that touches twice", loops{box(0, 0, 4, 4), lp(0, 2, 2, 1, 4, 2, 2, 3)},
			[]loops{{lp(0, 0, 4, 0, 4, 2, 2, 1, 0, 2)}, {lp(0, 2, 2, 3, 4, 2, 4, 4, 0, 4)}}},
		{"a ring shut at a place, and one in it", loops{lp(0, 0, 6, 0, 6, 6, 0, 6, 0, 3, 1, 3, 1, 5, 5, 5, 5, 1, 1, 1, 1, 3, 0, 2), box(2, 2, 3, 3)},
			[]loops{{lp(0, 0, 6, 0, 6, 6, 0, 6, 0, 3, 1, 3, 1, 5, 5, 5, 5, 1, 1, 1, 1, 3, 0, 2)}, {box(2, 2, 3, 3)}}},
	} {
		r := made(t, c.loops...)
		checkRegion(t, r)
		list, _ := impl.Pieces(r)
		if !slices.EqualFunc(list, c.want, func(p impl.Region, w loops) bool { return sameLoops(p.Loops, w) }) {
			t.Error(c.name, list, "not", c.want)
		}
	}
}

func aff(a, b, c, d, e, f int64) impl.Aff {
	return impl.Aff{A: q(a, 1), B: q(b, 1), C: q(c, 1), D: q(d, 1), E: q(e, 1), F: q(f, 1)}
}

func movedPoint(m impl.Aff, p point) point {
	x := plusRat(plusRat(timesRat(rat(m.A), p.x), timesRat(rat(m.B), p.y)), rat(m.E))
	y := plusRat(plusRat(timesRat(rat(m.C), p.x), timesRat(rat(m.D), p.y)), rat(m.F))
	return point{x, y}
}

func detOf(m impl.Aff) *big.Rat {
	return minusRat(timesRat(rat(m.A), rat(m.D)), timesRat(rat(m.B), rat(m.C)))
}

// checkMove holds against the outline of what the mapping makes of the loops, and the mapped area and middle.
func checkMove(t *testing.T, r impl.Region, m impl.Aff) bool {
	t.Helper()
	got, ok := impl.Move(r, m)
	if detOf(m).Sign() == 0 {
		if ok || got.Loops != nil {
			t.Fatal(r, "flattened", m, got)
		}
		return false
	}
	moved := pointLoops(r.Loops)
	for _, loop := range moved {
		for i, p := range loop {
			loop[i] = movedPoint(m, p)
		}
	}
	want, fine := wantRegion(moved)
	if ok != fine || !sameLoops(got.Loops, want) {
		t.Fatal(r, "moved by", m, "is", got, ok, "not", want, fine)
	}
	if !ok || len(r.Loops) == 0 {
		return ok
	}
	area, middle := wantMass(pointLoops(r.Loops))
	size := detOf(m)
	area = timesRat(area, size.Abs(size))
	if a, ok := impl.Area2(got); ok && rat(a).Cmp(area) != 0 {
		t.Fatal(r, "moved by", m, "has the area", a, "not", area)
	}
	if c, ok := impl.Middle(got); ok && pointOf(c).cmp(movedPoint(m, middle)) != 0 {
		t.Fatal(r, "moved by", m, "has the middle", c, "not", movedPoint(m, middle))
	}
	return true
}

func TestMove(t *testing.T) {
	moved, refused := 0, 0
	for kind := range 4 {
		s := &shapes{spots{dice(6000 + kind), kind}}
		for range []int{40, 15, 15, 6}[kind] {
			r, ok := impl.MakeRegion(s.loops())
			if !ok {
				continue
			}
			small := spots{dice(s.next()), kind % 2}
			m := impl.Aff{A: small.coord(), B: small.coord(), C: small.coord(), D: small.coord(), E: s.coord(), F: s.coord()}
			if checkMove(t, r, m) {
				moved++
			} else {
				refused++
			}
		}
	}
	if moved < 40 || refused < 5 {
		t.Error("too few of a kind", moved, refused)
	}
}

func TestMoveByHand(t *testing.T) {
	ring := made(t, box(0, 0, 6, 6), box(1, 1, 5, 5), lp(1, 1, 2, 3, 3, 2), box(7, 0, 8, 1))
	for name, m := range map[string]impl.Aff{
		"left as it is":      aff(1, 0, 0, 1, 0, 0),
		"shifted":            aff(1, 0, 0, 1, -9, 4),
		"turned":             aff(0, -1, 1, 0, 0, 0),
		"turned round":       aff(-1, 0, 0, -1, 0, 0),
		"turned over":        aff(-1, 0, 0, 1, 0, 0),
		"turned over, too":   aff(1, 0, 0, -1, 5, 5),
		"X and Y swapped":    aff(0, 1, 1, 0, 0, 0),
		"slanted":            aff(1, 3, 0, 1, 0, 0),
		"slanted and over":   aff(2, 3, 5, 1, 1, -1),
		"made great":         aff(1000000, 0, 0, 1000000, 0, 0),
		"as great as can be": aff(top/8, 0, 0, top/8, 0, 0),
		"made small":         {A: q(1, top), B: q(0, 1), C: q(0, 1), D: q(1, top), E: q(0, 1), F: q(0, 1)},
		"at the edge":        aff(1, 0, 0, 1, top-8, top-6),
	} {
		if !checkMove(t, ring, m) {
			t.Error(name, "is refused")
		}
	}
	for name, m := range map[string]impl.Aff{
		"flattened":             aff(1, 2, 2, 4, 0, 0),
		"to one place":          aff(0, 0, 0, 0, 1, 1),
		"flattened upright":     aff(0, 0, 1, 1, 0, 0),
		"flattened, great":      aff(top, top, top, top, 0, 0),
		"X beyond the edge":     aff(1, 0, 0, 1, top-7, 0),
		"Y beyond the edge":     aff(1, 0, 0, 1, 0, top-5),
		"made too great":        aff(top, 0, 0, top, 0, 0),
		"X alone made too fine": {A: q(1, top), B: q(1, 3), C: q(0, 1), D: q(1, 1), E: q(0, 1), F: q(0, 1)},
	} {
		if checkMove(t, ring, m) {
			t.Error(name, "is not refused")
		}
	}
	// A slight one that is not flat: its determinant is 1.
	if r, ok := impl.Move(made(t, lp(0, 0, 1, 0, 0, 1)), aff(top-1, top-2, top, top-1, 0, 0)); !ok || !sameLoops(r.Loops, lps(lp(0, 0, top-1, top, top-2, top-1))) {
		t.Error("a determinant of 1 made of great numbers", r, ok)
	}
	for name, m := range map[string]impl.Aff{"over": aff(-1, 0, 0, 1, 0, 0), "flat": aff(1, 1, 1, 1, 0, 0), "far": aff(top, 0, 0, top, top, top)} {
		if r, ok := impl.Move(impl.Region{}, m); ok != (name != "flat") || len(r.Loops) != 0 {
			t.Error("the empty region moved", name, r, ok)
		}
	}
}

// bars are three upright and three lying ones across each other: 24 places handed in, 96 in the outline.
func bars() [][]impl.V {
	var list [][]impl.V
	for i := range int64(3) {
		list = append(list, box(4*i+1, 0, 4*i+3, 12), box(0, 4*i+1, 12, 4*i+3))
	}
	return list
}

func countPlaces(loops [][]impl.V) int { return len(slices.Concat(loops...)) }

func TestMostEdgesOfOutlines(t *testing.T) {
	full := append(bars(), box(20, 0, 21, 1))
	r := made(t, full...)
	if countPlaces(r.Loops) != 100 {
		t.Error(countPlaces(r.Loops), "places")
	}
	checkRegion(t, r)
	if m, ok := impl.Move(r, aff(0, 1, 1, 0, 0, 0)); !ok || countPlaces(m.Loops) != 100 {
		t.Error("a full one moved", ok)
	}
	// A place that goes straight on is none of the outline.
	made(t, append(bars(), lp(20, 0, 21, 0, 22, 0, 22, 1, 20, 1))...)
	for name, more := range map[string][]impl.V{"one too many": lp(20, 0, 21, 0, 22, 1, 21, 2, 20, 1), "many too many": lp(-1, -2, 13, 14, -1, -1), "across all": box(-1, 2, 13, 4)} {
		if r, ok := impl.MakeRegion(append(bars(), more)); ok || r.Loops != nil {
			t.Error(name, countPlaces(r.Loops))
		}
	}
	// As many as can cross: thousands of places.
	var all []impl.V
	for i := range int64(50) {
		all = append(all, at(i, 1000*(i%2)), at(1000*((i+1)%2), i))
	}
	if _, ok := impl.MakeRegion(lps(all)); ok {
		t.Error("thousands of places")
	}
	// Many pieces for few places: at each touching place the long edge goes straight on.
	touching := lps(box(0, 0, 1000, 10))
	for i := range int64(32) {
		touching = append(touching, lp(10*i+5, 0, 10*i+1, -5, 10*i+8, -5))
	}
	r = made(t, touching...)
	if len(r.Loops) != 33 || countPlaces(r.Loops) != 100 {
		t.Error("an edge that is touched often", len(r.Loops), countPlaces(r.Loops))
	}
}

func TestMostEdgesHandedIn(t *testing.T) {
	comb := func(n int64) []impl.V {
		loop := lp(0, -1)
		for i := range n - 2 {
			loop = append(loop, at(i, i%2*10))
		}
		return append(loop, at(n-3, -1))
	}
	if r := made(t, comb(100)); countPlaces(r.Loops) != 100 && countPlaces(r.Loops) != 99 {
		t.Error("a comb", countPlaces(r.Loops))
	}
	if _, ok := impl.MakeRegion(lps(comb(101))); ok {
		t.Error("101 places in one loop")
	}
	if _, ok := impl.MakeRegion(lps(comb(50), comb(51))); ok {
		t.Error("101 places in two loops")
	}
	like := slices.Repeat(lp(3, 3), 97)
	if r := made(t, lp(0, 0, 1, 0, 0, 1), like); len(r.Loops) != 1 {
		t.Error("100 places, most of them alike", r)
	}
	if r, ok := impl.MakeRegion(lps(lp(0, 0, 1, 0, 0, 1), append(like, at(3, 3)))); ok || r.Loops != nil {
		t.Error("101 places of which few matter", r)
	}
	if r := made(t, append(make([][]impl.V, 500), box(0, 0, 1, 1))...); len(r.Loops) != 1 {
		t.Error("many loops without a place", r)
	}
	if _, ok := impl.MakeRegion(slices.Repeat(lps(lp(0, 0, 1, 0, 0, 1)), 34)); ok {
		t.Error("102 places in loops that lie on one another")
	}
	if r := made(t, slices.Repeat(lps(lp(0, 0, 1, 0, 0, 1)), 33)...); !sameLoops(r.Loops, lps(lp(0, 0, 1, 0, 0, 1))) {
		t.Error("33 times the same loop", r)
	}
}

func TestCrossingThatIsNoPlace(t *testing.T) {
	flat := lp(0, 0, top-1, 1, 0, 1)
	upTo := func(left, right impl.Q) []impl.V {
		return []impl.V{{X: left, Y: q(-1, 1)}, {X: right, Y: q(-1, 1)}, {X: right, Y: q(2, 1)}, {X: left, Y: q(2, 1)}}
	}
	swap := func(loop []impl.V) []impl.V {
		var list []impl.V
		for _, v := range loop {
			list = append(list, swapped(v))
		}
		return list
	}
	low, high := upTo(q(-1, 1), q(1, 2)), upTo(q(1, 2), q(top, 1))
	if r, ok := impl.MakeRegion(lps(flat, low)); ok || r.Loops != nil {
		t.Error("X is 1/2 there, but Y is no Q", r)
	}
	if r, ok := impl.MakeRegion(lps(swap(flat), swap(low))); ok || r.Loops != nil {
		t.Error("Y is 1/2 there, but X is no Q", r)
	}
	// The upright edge is covered twice, and so no border: its crossing does not matter.
	r := made(t, flat, low, high)
	if !sameLoops(r.Loops, lps(lp(-1, -1, top, -1, top, 2, -1, 2), lp(0, 0, 0, 1, top-1, 1))) {
		t.Error("a crossing that is none of the outline's", r)
	}
	checkRegion(t, r)
	if r := made(t, swap(flat), swap(low), swap(high)); len(r.Loops) != 2 {
		t.Error("the same with X and Y swapped", r)
	}
	if r := made(t, low, flat, low); !sameLoops(r.Loops, lps(flat)) {
		t.Error("a crossing with what is there twice", r)
	}
	// The slanted edge itself is covered twice.
	if r := made(t, low, flat, lp(0, 0, top-1, 1, top-1, 0)); len(r.Loops) == 0 {
		t.Error("a crossing with an edge that is no border", r)
	}
	// One of which the denominator is just MaxNum.
	if r := made(t, lp(0, 0, top, 1, 0, 1), box(-1, -1, 1, 2)); !strings.Contains(fmt.Sprint(r), fmt.Sprint(impl.V{X: q(1, 1), Y: q(1, top)})) {
		t.Error("a crossing at MaxNum", r)
	}
}

// notOutlines are loops of the set of a ring shut at a place and a square, told otherwise than its outline.
func notOutlines() map[string][][]impl.V {
	outer, hole, apart := box(0, 0, 6, 6), lp(1, 1, 1, 5, 5, 5, 5, 1), box(8, 0, 9, 1)
	pinch := lp(0, 0, 2, 0, 1, 1, 3, 1, 2, 0, 4, 0, 4, 4, 0, 4)
	return map[string][][]impl.V{
		"begun elsewhere":                lps(begun(outer, 1), hole, apart),
		"the hole begun elsewhere":       lps(outer, begun(hole, 3), apart),
		"in another order":               lps(hole, outer, apart),
		"the last two in another order":  lps(outer, apart, hole),
		"gone round the other way":       lps(begun(backward(outer), 3), hole, apart),
		"the hole gone round to left":    lps(outer, box(1, 1, 5, 5), apart),
		"a place too many":               lps(lp(0, 0, 3, 0, 6, 0, 6, 6, 0, 6), hole, apart),
		"a like place too many":          lps(lp(0, 0, 6, 0, 6, 0, 6, 6, 0, 6), hole, apart),
		"a spike":                        lps(lp(0, 0, 6, 0, 6, 6, 7, 7, 6, 6, 0, 6), hole, apart),
		"an empty loop":                  lps(outer, hole, apart, nil),
		"an empty loop alone":            lps(nil),
		"a loop of one place":            lps(outer, hole, lp(7, 7), apart),
		"a loop of two places":           lps(lp(1, 1, 2, 2)),
		"twice":                          lps(outer, outer),
		"crossing itself":                lps(lp(0, 0, 2, 2, 2, 0, 0, 2)),
		"two that cross":                 lps(box(0, 0, 2, 2), box(1, 1, 3, 3)),
		"two that touch along an edge":   lps(box(0, 0, 2, 2), box(2, 0, 4, 2)),
		"one loop told as two":           lps(box(0, 0, 4, 4), lp(1, 1, 3, 1, 2, 0)),
		"begun at the wrong of two":      lps(begun(lp(0, 0, 1, 2, 2, 1, 0, 0, 4, 0, 4, 4, 0, 4), 3)),
		"pinched, begun elsewhere":       lps(begun(pinch, 1)),
		"two loops told as one":          lps(lp(0, 0, 1, 0, 1, 1, 2, 1, 2, 2, 1, 2, 1, 1, 0, 1)),
		"two holes told as two":          lps(outer, lp(1, 1, 1, 3, 3, 3, 3, 1), lp(3, 3, 3, 5, 5, 5, 5, 3)),
		"too many places":                append(bars(), lp(20, 0, 21, 0, 22, 1, 21, 2, 20, 1)),
		"a place that is no Q":           lps([]impl.V{at(0, 0), at(2, 0), {X: q(4, 2), Y: q(2, 1)}, at(0, 2)}),
		"101 places":                     lps(slices.Repeat(lp(3, 3), 101)),
		"a crossing that has no place":   lps(lp(0, 0, top-1, 1, 0, 1), []impl.V{at(-1, -1), {X: q(1, 2), Y: q(-1, 1)}, {X: q(1, 2), Y: q(2, 1)}, at(-1, 2)}),
		"clean, but for a zero place":    {append(box(1, 1, 2, 2), impl.V{})},
		"clean, but for a far-off place": {append(box(1, 1, 2, 2), at(top+1, 0))},
	}
}

// checkNoOutline asks that each function that takes a region tells its answer for one that is none.
func checkNoOutline(t *testing.T, name any, loops [][]impl.V) {
	t.Helper()
	r := impl.Region{Loops: loops}
	if impl.RegionOk(r) || impl.Where(r, at(0, 0)) != impl.WhereBad || impl.Where(r, at(100, 100)) != impl.WhereBad {
		t.Error(name, "is taken for an outline")
	}
	if a, ok := impl.Area2(r); ok || a != (impl.Q{}) {
		t.Error(name, "has an area", a, ok)
	}
	if m, ok := impl.Middle(r); ok || m != (impl.V{}) {
		t.Error(name, "has a middle", m, ok)
	}
	if m, ok := impl.Move(r, aff(1, 0, 0, 1, 0, 0)); ok || m.Loops != nil {
		t.Error(name, "is moved", m, ok)
	}
	if p, ok := impl.Pieces(r); ok || len(p) != 0 {
		t.Error(name, "has pieces", p, ok)
	}
}

func TestLoopsThatAreNoOutline(t *testing.T) {
	for name, loops := range notOutlines() {
		checkNoOutline(t, name, loops)
	}
	for _, loops := range [][][]impl.V{nil, {}, lps(box(0, 0, 6, 6), lp(1, 1, 1, 5, 5, 5, 5, 1), box(8, 0, 9, 1)), lps(lp(0, 0, 2, 0, 1, 1, 3, 1, 2, 0, 4, 0, 4, 4, 0, 4))} {
		if !impl.RegionOk(impl.Region{Loops: loops}) {
			t.Error(loops, "is an outline")
		}
	}
	if _, ok := impl.Middle(impl.Region{}); ok {
		t.Error("the empty region has a middle")
	}
	if a, ok := impl.Area2(impl.Region{Loops: [][]impl.V{}}); !ok || a != q(0, 1) {
		t.Error("the empty region has the area", a, ok)
	}
}

func TestBrokenRegions(t *testing.T) {
	for _, r := range brokenRegions() {
		if got, ok := impl.MakeRegion(r.Loops); ok || got.Loops != nil {
			t.Fatal(r, "makes", got)
		}
		checkNoOutline(t, r, r.Loops)
	}
	clean := lps(box(0, 0, 6, 6), lp(1, 1, 1, 5, 5, 5, 5, 1))
	for _, bad := range brokenFractions() {
		for field := range 6 {
			m := aff(2, 1, 1, 3, 1, 1)
			reflect.ValueOf(&m).Elem().Field(field).Set(reflect.ValueOf(bad))
			for _, r := range []impl.Region{{Loops: clean}, {}} {
				if got, ok := impl.Move(r, m); ok || got.Loops != nil {
					t.Error("moved by", m, got)
				}
			}
		}
	}
}

// brokenRegions have one fraction that is not QOk, in each place of a ring.
func brokenRegions() []impl.Region {
	var list []impl.Region
	clean := lps(box(0, 0, 6, 6), lp(1, 1, 1, 5, 5, 5, 5, 1))
	for _, bad := range brokenFractions() {
		for i, loop := range clean {
			for k, v := range loop {
				for _, broken := range []impl.V{{X: bad, Y: v.Y}, {X: v.X, Y: bad}} {
					r := impl.Region{Loops: deepLoops(clean)}
					r.Loops[i][k] = broken
					list = append(list, r)
				}
			}
		}
	}
	return list
}

func TestBrokenPlacesOfRegions(t *testing.T) {
	clean := lps(box(0, 0, 6, 6), lp(1, 1, 1, 5, 5, 5, 5, 1))
	for _, v := range brokenPlaces() {
		// A place that makes no edge is looked at, too.
		for _, loops := range [][][]impl.V{{{v}}, {clean[0], {v}}, {{v, v, v}, clean[0]}} {
			if r, ok := impl.MakeRegion(loops); ok || r.Loops != nil {
				t.Error(loops, "make", r)
			}
		}
		if impl.Where(impl.Region{Loops: clean}, v) != impl.WhereBad || impl.Where(impl.Region{}, v) != impl.WhereBad {
			t.Error("where is", v)
		}
	}
}
